/-
  Own texts, bundled: Own2, Grow, L3Look.
-/
import Derived.Test.YtbecdihfopjlhaaGreatDoorPk14
import Derived.Test.YtbecdihfopjlhaaGreatDoorPk7
import Derived.Test.YtbecdihfopjlhaaGreatDoorPk3
import Derived.Test.YtbecdihfopjlhaaGreatDoorPk9
import Derived.Maps.AppendAt
import Derived.Test.YtbecdihfopjlhaaGreatDoorPk13
import Derived.Deep.RegionLaw
import Derived.Deep.AppendLies
import Derived.StillTactics
import Derived.Laws.Pointers
namespace Go.Proofs.YtbecdihfopjlhaaGreatDoor.Own
open Go.RowKit
set_option linter.unusedVariables false

/-- v is a slice of the pairs xs, of element type t, its memory from B on its own. -/
def OwnP (t : TypeId) (w : World) (B : Nat) (v : Value) (xs : List P2) : Prop := w.ownsRow B t 2 v xs.length (flat xs)

theorem OwnP.open {t : TypeId} {w : World} {B : Nat} {v : Value} {xs : List P2} (h : OwnP t w B v xs) :
    ∃ a cap, v = .slice a xs.length cap ∧ Sl w a xs ∧ xs.length ≤ cap ∧ cap ≤ maxLen ∧ (∀ x, a = some x → v.ownBlock = some x.block ∧ x.off = 0 ∧ x.spot = none) := by
  obtain ⟨h1, h2⟩ := h
  rcases h2 with ⟨hv, h0⟩ | ⟨g, cap, cur, hv, hg, hh, hmc, hml, hsz, htk⟩
  · exact ⟨none, 0, by rw [hv, h0], .inl (List.eq_nil_of_length_eq_zero h0), by omega, by unfold maxLen; omega, fun x e => by cases e⟩
  · refine ⟨some ⟨g, 0, none⟩, cap, hv, .inr ⟨g, 0, rfl, (Array.getElem?_eq_some_iff.1 hh).1, fun i hi => ?_⟩, hmc, hml, fun x e => by injection e with e; subst e; rw [hv]; exact ⟨rfl, rfl, rfl⟩⟩
    have e := flat_even xs i hi
    rw [← htk] at e
    rw [cell_heap hh, cell_heap hh, Nat.zero_add]
    rw [List.getElem?_take_of_lt (by omega), List.getElem?_take_of_lt (by omega)] at e
    simpa using e
theorem OwnP.keep {t : TypeId} {w w' : World} {B : Nat} {v : Value} {xs : List P2} {row : Option Nat} (h : OwnP t w B v xs) (hg : w.grownBy w' row) (hne : v.ownBlock = none ∨ v.ownBlock ≠ row) : OwnP t w' B v xs := World.ownsRow.kept h hg hne
theorem OwnP.below {t : TypeId} {w w' : World} {B : Nat} {v : Value} {xs : List P2} (h : OwnP t w B v xs) (hb : Below w.heap.size w w') : OwnP t w' B v xs := by
  obtain ⟨h1, h2⟩ := h
  refine ⟨h1, ?_⟩
  rcases h2 with h2 | ⟨g, cap, cur, hv, hg, hh, r⟩
  · exact .inl h2
  · exact .inr ⟨g, cap, cur, hv, hg, by rw [hb.block g (Array.getElem?_eq_some_iff.1 hh).1]; exact hh, r⟩
theorem OwnP.lower {t : TypeId} {w : World} {B B' : Nat} {v : Value} {xs : List P2} (h : OwnP t w B v xs) (hB : B' ≤ B) : OwnP t w B' v xs := by
  obtain ⟨h1, h2⟩ := h
  refine ⟨h1, ?_⟩
  rcases h2 with h2 | ⟨g, cap, cur, hv, hg, r⟩
  · exact .inl h2
  · exact .inr ⟨g, cap, cur, hv, Nat.le_trans hB hg, r⟩
theorem OwnP.nil (t : TypeId) (w : World) (B : Nat) : OwnP t w B (.slice none 0 0) [] := World.ownsRow_nil _ _ _ _
theorem flat_snocP (xs : List P2) (p : P2) : flat (xs ++ [p]) = flat xs ++ [.int .i64 p.1, .int .i64 p.2] := by simp [flat]

theorem flat_extP {xs : List P2} {l : List Value} (hl : l.length = xs.length * 2) (h : ∀ i, i < xs.length → l[i * 2]? = some (.int .i64 (xs.getD i (0, 0)).1) ∧ l[i * 2 + 1]? = some (.int .i64 (xs.getD i (0, 0)).2)) : l = flat xs := by
  apply List.ext_getElem?
  intro j
  by_cases hj : j < xs.length * 2
  · have hk : j / 2 < xs.length := by omega
    have e1 := h (j / 2) hk
    have e2 := flat_even xs (j / 2) hk
    rcases Nat.mod_two_eq_zero_or_one j with m | m
    · rw [show j = j / 2 * 2 by omega, e1.1, e2.1]
    · rw [show j = j / 2 * 2 + 1 by omega, e1.2, e2.2]
  · rw [List.getElem?_eq_none (by omega), List.getElem?_eq_none (by rw [flat_length]; omega)]

theorem getD_setP (xs : List P2) (i j : Nat) (v : P2) (hi : i < xs.length) : (xs.set i v).getD j (0, 0) = if i = j then v else xs.getD j (0, 0) := by
  simp only [List.getD_eq_getElem?_getD, List.getElem?_set]
  by_cases e : i = j
  · simp [e, show j < xs.length by omega]
  · simp [e]

/-- The second number of a pair of such a slice, turned. -/
theorem OwnP.set {t : TypeId} {w : World} {B g cap : Nat} {xs : List P2} (h : OwnP t w B (.slice (some ⟨g, 0, none⟩) xs.length cap) xs) (i : Nat) (hi : i < xs.length) (n : Int) :
    OwnP t (w.setCell ⟨g, i * 2 + 1, none⟩ (.int .i64 n)) B (.slice (some ⟨g, 0, none⟩) xs.length cap) (xs.set i ((xs.getD i (0, 0)).1, n)) := by
  obtain ⟨h1, h2⟩ := h
  rcases h2 with ⟨hv, h0⟩ | ⟨g', cap', cur, hv, hg, hh, hmc, hml, hsz, htk⟩
  · omega
  injection hv with e1 e2 e3
  injection e1 with e1
  injection e1 with e1
  subst e1 e3
  have hl2 := flat_length xs
  refine ⟨by rw [flat_length], .inr ⟨g, cap, cur.setIfInBounds (i * 2 + 1) (.int .i64 n), by rw [List.length_set], hg, ?_, by rw [List.length_set]; exact hmc, hml, by simpa using hsz, ?_⟩⟩
  · simp [World.setCell, Array.getElem?_modify, hh]
  · rw [List.length_set]
    have hcl : xs.length * 2 ≤ cur.size := by rw [hsz]; omega
    apply flat_extP
    · rw [List.length_set, List.length_take]
      simp
      omega
    · intro j hj
      rw [List.length_set] at hj
      have e := flat_even xs j hj
      rw [← htk, List.getElem?_take_of_lt (by omega), List.getElem?_take_of_lt (by omega)] at e
      rw [List.getElem?_take_of_lt (by omega), List.getElem?_take_of_lt (by omega), getD_setP _ _ _ _ hi]
      by_cases hij : i = j
      · subst hij
        rw [if_pos rfl]
        refine ⟨?_, ?_⟩
        · have := e.1
          simp only [Array.getElem?_toList] at this ⊢
          rw [Array.getElem?_setIfInBounds_ne (by omega)]; exact this
        · simp only [Array.getElem?_toList]
          rw [Array.getElem?_setIfInBounds_self_of_lt (by omega)]
      · rw [if_neg hij]
        refine ⟨?_, ?_⟩
        · have := e.1
          simp only [Array.getElem?_toList] at this ⊢
          rw [Array.getElem?_setIfInBounds_ne (by omega)]; exact this
        · have := e.2
          simp only [Array.getElem?_toList] at this ⊢
          rw [Array.getElem?_setIfInBounds_ne (by omega)]; exact this
end Go.Proofs.YtbecdihfopjlhaaGreatDoor.Own

namespace Go.Proofs.YtbecdihfopjlhaaGreatDoor.Own
open Go.RowKit
set_option linter.unusedVariables false

theorem grR (w : World) (row : Option Nat) : w.grownBy w row := ⟨rfl, rfl, rfl, Nat.le_refl _, fun _ _ _ => rfl⟩
theorem grSet {a b : World} {k o : Nat} (h : a.grownBy b (some k)) (v : Value) : a.grownBy (b.setCell ⟨k, o, none⟩ v) (some k) :=
  ⟨h.os, h.tape, h.output, by simpa [World.setCell] using h.size, fun i hi hn => by rw [Below.heap_setCell _ _ _ _ (fun e => hn (by rw [e]))]; exact h.block i hi hn⟩
theorem grSetN {a b : World} {row : Option Nat} {p : Addr} (h : a.grownBy b row) (hp : a.heap.size ≤ p.block) (v : Value) : a.grownBy (b.setCell p v) row :=
  ⟨h.os, h.tape, h.output, by simpa [World.setCell] using h.size, fun i hi hn => by rw [Below.heap_setCell _ _ _ _ (by omega)]; exact h.block i hi hn⟩
theorem grAlloc {a b : World} {row : Option Nat} (h : a.grownBy b row) (o : Obj) : a.grownBy (b.alloc o) row := h.trans ((World.grownBy_alloc b o row))
theorem grDrew {a b : World} {row : Option Nat} (h : a.grownBy b row) : a.grownBy b.drew row := h.trans ⟨rfl, rfl, rfl, Nat.le_refl _, fun _ _ _ => rfl⟩
theorem grDrewN {a b : World} {row : Option Nat} (h : a.grownBy b row) (n : Nat) : a.grownBy (b.drewN n) row := h.trans ⟨rfl, rfl, rfl, Nat.le_refl _, fun _ _ _ => rfl⟩
theorem grBelow {w w' : World} {row : Option Nat} (h : Below w.heap.size w w') : w.grownBy w' row := ⟨h.os, h.tape, h.output, h.size, fun k hk _ => h.block k hk⟩
theorem grBut {a b : World} (h : a.grownBy b none) (row : Option Nat) : a.grownBy b row := ⟨h.os, h.tape, h.output, h.size, fun i hi _ => h.block i hi (by simp)⟩
/-- A block that was not there may turn. -/
theorem grNew {a b c : World} {row : Option Nat} {k : Nat} (h : a.grownBy b row) (g : b.grownBy c (some k)) (hk : a.heap.size ≤ k) : a.grownBy c row :=
  ⟨g.os.trans h.os, g.tape.trans h.tape, g.output.trans h.output, Nat.le_trans h.size g.size, fun i hi hn => (g.block i (Nat.lt_of_lt_of_le hi h.size) (by simp; omega)).trans (h.block i hi hn)⟩
theorem Sl.grown {w w' : World} {row : Option Nat} {a : Option Addr} {xs : List (Int × Int)} (h : Sl w a xs) (hg : w.grownBy w' row) (hb : ∀ x, a = some x → row ≠ some x.block) : Sl w' a xs := by
  rcases h with h | ⟨b, off, rfl, h⟩
  · exact .inl h
  · have e : ∀ o, w'.cell? ⟨b, o, none⟩ = w.cell? ⟨b, o, none⟩ := fun o => World.cell?_of_block (w := w) (a := ⟨b, o, none⟩) (hg.block b h.1 (fun e => hb _ rfl e.symm))
    exact .inr ⟨b, off, rfl, Nat.lt_of_lt_of_le h.1 hg.size, fun i hi => by rw [e, e]; exact h.2 i hi⟩
end Go.Proofs.YtbecdihfopjlhaaGreatDoor.Own

namespace Go.Proofs.YtbecdihfopjlhaaGreatDoor.Own
open Go.RowKit
set_option linter.unusedVariables false
set_option linter.unusedSimpArgs false

/-- What looking leaves. -/
def LookPost (bs xs ys : List P2) (j : Nat) (B : Nat) (rv pv : Value) (v k : Int) (w : World) (e : Ending) (w' : World) : Prop :=
  ∃ rv', e = .returned (.tuple #[.int .i64 (inBox bs ys j), .agg #[rv', pv, .int .i64 v, .int .i64 k]]) ∧ OwnP 40 w' B rv' (lookR bs xs ys j) ∧ OwnP 54 w' B pv ys ∧
    (rv'.ownBlock = none ∨ rv'.ownBlock ≠ pv.ownBlock) ∧ w.grownBy w' rv.ownBlock ∧ (∀ g, rv'.ownBlock = some g → rv.ownBlock = some g ∨ w.heap.size ≤ g)

theorem infoRead : (Tryz.prog.info? 40).map (fun i => (i.zero, i.size, i.bytes)) = some (some (.agg #[.int .i64 0, .int .i64 0]), 2, 16) := by kernel_rfl

set_option maxRecDepth 100000 in
set_option maxHeartbeats 4000000 in
theorem l3Look (la : Option Addr) (lc : Nat) (bs : List P2) (j : Nat) (rv pv : Value) (xs ys : List P2) (v k : Int) (B : Nat) (w : World)
    (hb : Sl w la bs) (hj : j < bs.length) (l0 : bs.length ≤ 2 ^ 40) (hla : ∀ x, la = some x → rv.ownBlock ≠ some x.block)
    (hr : OwnP 40 w B rv xs) (hp : OwnP 54 w B pv ys) (hd : rv.ownBlock = none ∨ rv.ownBlock ≠ pv.ownBlock) (hB : B ≤ w.heap.size) (lx : xs.length ≤ 1000) (ly : ys.length ≤ 1000) :
    Calls Tryz.prog 142 #[.slice la bs.length lc, .agg #[rv, pv, .int .i64 v, .int .i64 k], .int .i64 j] w fun e w' => LookPost bs xs ys j B rv pv v k w e w' := by
  obtain ⟨ar, cr, hrv, slr, hcr, hmr, hbr⟩ := hr.open
  obtain ⟨ap, cp, hpv, slp, hcp, hmp, hbp⟩ := hp.open
  have HR : Hid (OwnP 40 w B rv xs) := hr
  have HP : Hid (OwnP 54 w B pv ys) := hp
  have HD : Hid (rv.ownBlock = none ∨ rv.ownBlock ≠ pv.ownBlock) := hd
  have HLA : Hid (∀ x, la = some x → rv.ownBlock ≠ some x.block) := hla
  have HRV : Hid (rv = .slice ar xs.length cr) := hrv
  have HPV : Hid (pv = .slice ap ys.length cp) := hpv
  have SR : Hid (Sl w ar xs) := slr
  have SP : Hid (Sl w ap ys) := slp
  have SB : Hid (Sl w la bs) := hb
  clear hr hp hd hla slr slp hb hbr hbp hcr hcp hmr hmp
  obtain ⟨W, hW⟩ : ∃ W, W = (w.alloc (.cells #[.slice ar xs.length cr, .slice ap ys.length cp, .int .i64 v, .int .i64 k] 37)).alloc (.cells #[.slice none 0 0, .slice none 0 0, .int .i64 0, .int .i64 0] 37) := ⟨_, rfl⟩
  have BW : Hid (Below w.heap.size w W) := by show Below _ _ _; rw [hW]; exact ((Below.refl _ _).alloc (Nat.le_refl _) _).alloc (by simp) _
  have HSW : Hid (W.heap.size = w.heap.size + 2) := by show _ = _; rw [hW]; simp
  have hNW : w.heap.size + 1 < W.heap.size := by have := HSW.out; omega
  have hBW : B ≤ W.heap.size := by omega
  have g0 : Hid (W.heap[w.heap.size]? = some (.cells #[.slice ar xs.length cr, .slice ap ys.length cp, .int .i64 v, .int .i64 k] 37 (0, 0))) := by show _ = _; rw [hW]; exact heap_new1 _ _ _
  have g1 : Hid (W.heap[w.heap.size + 1]? = some (.cells #[.slice none 0 0, .slice none 0 0, .int .i64 0, .int .i64 0] 37 (0, 0))) := by show _ = _; rw [hW]; exact heap_new2 _ _ _
  have HW : Hid (W = _) := hW
  clear hW
  have q0 : W.cell? ⟨w.heap.size, 0, none⟩ = some (.slice ar xs.length cr) := by rw [cell_heap g0.out]; rfl
  have q1 : W.cell? ⟨w.heap.size, 1, none⟩ = some (.slice ap ys.length cp) := by rw [cell_heap g0.out]; rfl
  have q2 : W.cell? ⟨w.heap.size, 2, none⟩ = some (.int .i64 v) := by rw [cell_heap g0.out]; rfl
  have q3 : W.cell? ⟨w.heap.size, 3, none⟩ = some (.int .i64 k) := by rw [cell_heap g0.out]; rfl
  have z0 : W.cell? ⟨w.heap.size + 1, 0, none⟩ = some (.slice none 0 0) := by rw [cell_heap g1.out]; rfl
  have z1 : W.cell? ⟨w.heap.size + 1, 1, none⟩ = some (.slice none 0 0) := by rw [cell_heap g1.out]; rfl
  have z2 : W.cell? ⟨w.heap.size + 1, 2, none⟩ = some (.int .i64 0) := by rw [cell_heap g1.out]; rfl
  have z3 : W.cell? ⟨w.heap.size + 1, 3, none⟩ = some (.int .i64 0) := by rw [cell_heap g1.out]; rfl
  have fz : ∀ o, W.frozen? ⟨w.heap.size + 1, o, none⟩ = false := fun o => frozen_heap g1.out o
  have lR : Hid (∀ g, rv.ownBlock = some g → g < w.heap.size) := fun g hg => (World.ownsRow.lt HR.out g hg).2
  have lP : Hid (∀ g, pv.ownBlock = some g → g < w.heap.size) := fun g hg => (World.ownsRow.lt HP.out g hg).2
  -- where nothing but its own cells has turned
  have FIN : Hid (∀ W', W.grownBy W' (some (w.heap.size + 1)) → lookR bs xs ys j = xs → OwnP 40 W' B rv (lookR bs xs ys j) ∧ OwnP 54 W' B pv ys ∧ (rv.ownBlock = none ∨ rv.ownBlock ≠ pv.ownBlock) ∧ w.grownBy W' rv.ownBlock ∧ (∀ g, rv.ownBlock = some g → rv.ownBlock = some g ∨ w.heap.size ≤ g)) := fun W' hg hl => by
    have e : w.grownBy W' none := grNew (grBelow BW.out) hg (by omega)
    rw [hl]
    exact ⟨HR.out.keep e (by cases h : rv.ownBlock <;> simp), HP.out.keep e (by cases h : pv.ownBlock <;> simp), HD.out, grBut e _, fun g e => .inl e⟩
  rw [HRV.out, HPV.out]
  go_enter Tryz.func142, Tryz.ntmps142
  go_wp2_with fail
  rw [← HW.out]
  refine (l3At ap cp ys.length ys j W (SP.out.below BW.out) rfl (by omega)).mono ?_
  rintro e w1 ⟨rfl, hw⟩
  rw [hw]
  clear hw
  cases hy : hasBox ys j with
  | true =>
    obtain ⟨pe, pl⟩ := place_idx ys j hy
    rw [pe]
    have EI : Hid (inBox bs ys j = (ys.getD (idxBox ys j) (0, 0)).2) := by show _ = _; simp [inBox, hy]
    have EL : Hid (lookR bs xs ys j = xs) := by show _ = _; simp [lookR, hy]
    generalize idxBox ys j = m at pl EI
    clear pe hy
    rcases (SP.out.below BW.out) with h0 | ⟨b, off, rfl, hat⟩
    · rw [h0] at pl; simp at pl
    have cy := (hat.2 m pl).2
    rw [← EI.out] at cy
    clear hat
    have dm : decide ((0 : Int) ≤ (m : Int)) = true := by simp
    have hml : (m : Int) < ((ys.length : Nat) : Int) := by omega
    go_wp2
    go_region
    all_goals
      go_wp2
      refine bodyPost_ret (v := .tuple #[.int .i64 (inBox bs ys j), .agg #[.slice ar xs.length cr, .slice (some ⟨b, off, none⟩) ys.length cp, .int .i64 v, .int .i64 k]]) (by simp [results, Tryz.results142, go_sem, z0, z1, z2, z3]) rfl ⟨rv, by rw [HRV.out], ?_⟩
      rw [← HRV.out, ← HPV.out]
      refine FIN.out _ ?_ EL.out
      repeat (first | exact grR _ _ | apply grSet | apply grDrew | apply grDrewN)
  | false =>
    rw [place_no ys j hy]
    have EI : Hid (inBox bs ys j = (bs.getD j (0, 0)).2) := by show _ = _; simp [inBox, hy]
    have YN : Hid (hasBox ys j = false) := hy
    clear hy
    rcases SB.out with h0 | ⟨b, off, rfl, hat0⟩
    · rw [h0] at hj; simp at hj
    have hat := hat0.below BW.out
    have hbw : b < w.heap.size := hat0.1
    clear hat0
    have cv := (hat.2 j hj).1
    have cl := (hat.2 j hj).2
    have hbW : b < W.heap.size := hat.1
    rw [← EI.out] at cl
    obtain ⟨ver, hver⟩ : ∃ z, z = (bs.getD j (0, 0)).1 := ⟨_, rfl⟩
    rw [← hver] at cv
    have HV : Hid (ver = (bs.getD j (0, 0)).1) := hver
    clear hat hver
    have hjl : (j : Int) < ((bs.length : Nat) : Int) := by omega
    go_wp2_with fail
    refine (l3Saw ar cr xs.length xs j W (SR.out.below BW.out) rfl (by omega)).mono ?_
    rintro e w1 ⟨rfl, hw⟩
    rw [hw]
    clear hw
    cases hx : (xs.any fun p => p.1 == (j : Int)) with
    | true =>
      have EL : Hid (lookR bs xs ys j = xs) := by show _ = _; unfold lookR; rw [YN.out]; simp [show hasBox xs j = true from hx]
      clear hx
      go_wp2
      go_region
      all_goals
        go_wp2
        refine bodyPost_ret (v := .tuple #[.int .i64 (inBox bs ys j), .agg #[.slice ar xs.length cr, .slice ap ys.length cp, .int .i64 v, .int .i64 k]]) (by simp [results, Tryz.results142, go_sem, z0, z1, z2, z3]) rfl ⟨rv, by rw [HRV.out], ?_⟩
        rw [← HRV.out, ← HPV.out]
        refine FIN.out _ ?_ EL.out
        repeat (first | exact grR _ _ | apply grSet | apply grDrew | apply grDrewN)
    | false =>
      have EL : Hid (lookR bs xs ys j = xs ++ [((j : Int), ver)]) := by show _ = _; unfold lookR; rw [YN.out, HV.out]; simp [show hasBox xs j = false from hx]
      clear hx
      obtain ⟨i0, hi0, hz0, hz1, hz2⟩ := info_parts infoRead
      have HRW : Hid (W.ownsRow B 40 2 (.slice ar xs.length cr) xs.length (flat xs)) := by
        show W.ownsRow _ _ _ _ _ _
        rw [← HRV.out]; exact HR.out.below BW.out
      have OB : Hid (rv.ownBlock = (Value.slice ar xs.length cr).ownBlock) := by show _ = _; rw [HRV.out]
      have hN : Hid (xs.length + 1 ≤ maxLen) := by show _ ≤ _; unfold maxLen; omega
      have hBy : Hid ((xs.length + 1) * 16 ≤ 140737488355328) := by show _ ≤ _; omega
      have nN : Hid ((Value.slice ar xs.length cr).ownBlock ≠ some w.heap.size ∧ (Value.slice ar xs.length cr).ownBlock ≠ some (w.heap.size + 1) ∧ (Value.slice ar xs.length cr).ownBlock ≠ some b) := by
        show _ ∧ _
        rw [← OB.out]
        exact ⟨fun e => by have := lR.out _ e; omega, fun e => by have := lR.out _ e; omega, HLA.out _ rfl⟩
      have AFT : Hid (∀ w1 : World, W.grownBy w1 (Value.slice ar xs.length cr).ownBlock → w1.heap[w.heap.size]? = some (.cells #[.slice ar xs.length cr, .slice ap ys.length cp, .int .i64 v, .int .i64 k] 37 (0, 0)) ∧ w1.heap[w.heap.size + 1]? = some (.cells #[.slice none 0 0, .slice none 0 0, .int .i64 0, .int .i64 0] 37 (0, 0)) ∧ w1.cell? ⟨b, off + j * 2, none⟩ = some (.int .i64 ver) ∧ w1.cell? ⟨b, off + j * 2 + 1, none⟩ = some (.int .i64 (inBox bs ys j))) := fun w1 hg => by
        refine ⟨?_, ?_, ?_, ?_⟩
        · rw [hg.block _ (by omega) (Ne.symm nN.out.1)]; exact g0.out
        · rw [hg.block _ (by omega) (Ne.symm nN.out.2.1)]; exact g1.out
        · rw [hg.cell_far ⟨b, off + j * 2, none⟩ hbW (Ne.symm nN.out.2.2)]; exact cv
        · rw [hg.cell_far ⟨b, off + j * 2 + 1, none⟩ hbW (Ne.symm nN.out.2.2)]; exact cl
      have FIN2 : Hid (∀ (w1 : World) (gg cap : Nat), W.grownBy w1 (Value.slice ar xs.length cr).ownBlock → w1.ownsRow B 40 2 (.slice (some ⟨gg, 0, none⟩) (xs.length + 1) cap) (xs.length + 1) (flat xs ++ [.int .i64 j, .int .i64 ver]) → ((Value.slice ar xs.length cr).ownBlock = some gg ∨ gg = W.heap.size + 1) → ∀ W', (w1.setCell ⟨w.heap.size, 0, none⟩ (.slice (some ⟨gg, 0, none⟩) (xs.length + 1) cap)).grownBy W' (some (w.heap.size + 1)) → OwnP 40 W' B (.slice (some ⟨gg, 0, none⟩) (xs.length + 1) cap) (lookR bs xs ys j) ∧ OwnP 54 W' B pv ys ∧ ((Value.slice (some ⟨gg, 0, none⟩) (xs.length + 1) cap).ownBlock = none ∨ (Value.slice (some ⟨gg, 0, none⟩) (xs.length + 1) cap).ownBlock ≠ pv.ownBlock) ∧ w.grownBy W' rv.ownBlock ∧ (∀ g, (Value.slice (some ⟨gg, 0, none⟩) (xs.length + 1) cap).ownBlock = some g → rv.ownBlock = some g ∨ w.heap.size ≤ g)) := by
        intro w1 gg cap hg ho hat W' hk
        have s1 : w1.grownBy (w1.setCell ⟨w.heap.size, 0, none⟩ (.slice (some ⟨gg, 0, none⟩) (xs.length + 1) cap)) (some w.heap.size) := grSet (grR _ _) _
        have hgg : gg ≠ w.heap.size ∧ gg ≠ w.heap.size + 1 ∧ (∀ q, pv.ownBlock = some q → gg ≠ q) := by
          rcases hat with h | h
          · rw [← OB.out] at h
            have := lR.out _ h
            refine ⟨by omega, by omega, fun q hq e => ?_⟩
            rcases HD.out with h' | h'
            · rw [h] at h'; cases h'
            · exact h' (by rw [h, hq, e])
          · refine ⟨by omega, by omega, fun q hq e => ?_⟩
            have := lP.out _ hq
            omega
        refine ⟨?_, ?_, ?_, ?_, ?_⟩
        · have o : OwnP 40 w1 B (.slice (some ⟨gg, 0, none⟩) (xs.length + 1) cap) (xs ++ [((j : Int), ver)]) := by
            unfold OwnP
            rw [List.length_append, flat_snocP]
            exact ho
          rw [EL.out]
          refine (o.keep s1 (.inr ?_)).keep hk (.inr ?_)
          · intro e; injection e with e; exact hgg.1 e
          · intro e; injection e with e; exact hgg.2.1 e
        · refine (((HP.out.below BW.out).keep hg ?_).keep s1 ?_).keep hk ?_
          · rw [← OB.out]
            rcases HD.out with h' | h'
            · rw [h']; cases pv.ownBlock <;> simp
            · exact .inr (Ne.symm h')
          · cases h : pv.ownBlock with
            | none => exact .inl rfl
            | some q => refine .inr fun e => ?_; injection e with e; have := lP.out _ h; omega
          · cases h : pv.ownBlock with
            | none => exact .inl rfl
            | some q => refine .inr fun e => ?_; injection e with e; have := lP.out _ h; omega
        · refine .inr fun e => ?_
          exact hgg.2.2 gg e.symm rfl
        · rw [OB.out]
          exact grNew (grNew ((grBelow BW.out).trans hg) s1 (Nat.le_refl _)) hk (by omega)
        · intro g e
          have e' : gg = g := Option.some.inj e
          subst e'
          rcases hat with h | h
          · exact .inl (by rw [OB.out]; exact h)
          · exact .inr (by omega)
      have qa : (W.alloc (.cells #[.int .i64 j, .int .i64 ver] 40)).cell? ⟨w.heap.size, 0, none⟩ = some (.slice ar xs.length cr) := (World.cell?_of_block (w := W) (a := ⟨w.heap.size, 0, none⟩) (heap_old _ _ _ (by show w.heap.size < _; omega))).trans q0
      go_wp2_with fail
      go_region_law ((refine step_append_lies _ (by rfl) _ _ _ (by rfl) B 40 i0 _ 2 16 Tryz.underlying34 hi0 hz0 hz1 hz2 rfl (by omega) (.slice ar xs.length cr) xs.length (flat xs) (by rfl) ((HRW.out.alloc _).drew) ⟨W.heap.size, 0, none⟩ 1 1 [.int .i64 j, .int .i64 ver] (by rfl) (by rfl) (World.news_of_block (cs := #[.int .i64 j, .int .i64 ver]) (t := 40) (fr := (0, 0)) (heap_alloc_new W _)) (by simp [Value.oneCell']) (by omega) hN.out hBy.out (by simp; omega) (W.heap.size + 1) (by simp) ?_; intro gg cap w1 hown1 hgrow hat hlt; have GW : W.grownBy w1 (Value.slice ar xs.length cr).ownBlock := World.grownBy.trans (grDrew (grAlloc (grR W _) _)) hgrow; have f0 : w1.frozen? ⟨w.heap.size, 0, none⟩ = false := frozen_heap (AFT.out w1 GW).1 0; have c0 : w1.cell? ⟨w.heap.size, 0, none⟩ = some (.slice ar xs.length cr) := (cell_heap (AFT.out w1 GW).1 0).trans rfl))
      all_goals
        obtain ⟨G0, G1, cv1, cl1⟩ := AFT.out w1 GW
        have c1 : w1.cell? ⟨w.heap.size, 1, none⟩ = some (.slice ap ys.length cp) := (cell_heap G0 1).trans rfl
        have c2 : w1.cell? ⟨w.heap.size, 2, none⟩ = some (.int .i64 v) := (cell_heap G0 2).trans rfl
        have c3 : w1.cell? ⟨w.heap.size, 3, none⟩ = some (.int .i64 k) := (cell_heap G0 3).trans rfl
        have y0 : w1.cell? ⟨w.heap.size + 1, 0, none⟩ = some (.slice none 0 0) := (cell_heap G1 0).trans rfl
        have y1 : w1.cell? ⟨w.heap.size + 1, 1, none⟩ = some (.slice none 0 0) := (cell_heap G1 1).trans rfl
        have y2 : w1.cell? ⟨w.heap.size + 1, 2, none⟩ = some (.int .i64 0) := (cell_heap G1 2).trans rfl
        have y3 : w1.cell? ⟨w.heap.size + 1, 3, none⟩ = some (.int .i64 0) := (cell_heap G1 3).trans rfl
        have fy : ∀ o, w1.frozen? ⟨w.heap.size + 1, o, none⟩ = false := fun o => frozen_heap G1 o
        have F2 := FIN2.out w1 gg cap GW hown1 hat
        have F3 : Hid _ := F2
        have bn : ¬ b = w.heap.size := by omega
        have bn' : ¬ w.heap.size = b := by omega
        clear G0 G1 hown1 hgrow hat hlt F2
        go_wp2
        go_region
        all_goals
          go_wp2
          refine bodyPost_ret (v := .tuple #[.int .i64 (inBox bs ys j), .agg #[.slice (some ⟨gg, 0, none⟩) (xs.length + 1) cap, .slice ap ys.length cp, .int .i64 v, .int .i64 k]]) (by simp [results, Tryz.results142, go_sem, y0, y1, y2, y3]) rfl ⟨_, rfl, ?_⟩
          rw [← HRV.out, ← HPV.out]
          refine F3.out _ ?_
          repeat (first | exact grR _ _ | apply grSet | apply grDrew | apply grDrewN)
end Go.Proofs.YtbecdihfopjlhaaGreatDoor.Own
