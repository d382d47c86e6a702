/-
  Own texts, bundled: SpecLast, Bar, OwnQ.
-/
import Derived.Test.YtbecdihfopjlhaaGreatDoorPk8
import Derived.Test.YtbecdihfopjlhaaGreatDoorPk1
import Derived.Test.YtbecdihfopjlhaaGreatDoorPk2
import Derived.OwnWalk
namespace Go.Proofs.YtbecdihfopjlhaaGreatDoor.Own
open Go.RowKit
set_option linter.unusedVariables false
set_option linter.unusedSimpArgs false

/-- The last request of a node, or nothing. -/
def lastQ (m : Nat → Option T3) (j : Nat) : Q4 := match m j with
  | some t => ((j : Int), t.1, t.2.1, t.2.2)
  | none => q0

set_option maxRecDepth 100000 in
set_option maxHeartbeats 2000000 in
theorem specLast (z : Int) (s1 : Value) (a2 : Option Addr) (c2 : Nat) (m : Nat → Option T3) (j : Nat) (ds : List Q4) (w : World) (hds : ds = listM m) (h : Sl4 w a2 ds) (hj : j < 3) :
    Calls Tryz.prog 87 #[.agg #[.int .i64 z, s1, .slice a2 ds.length c2], .int .i64 (j : Int)] w fun e w' => e = .returned (.tuple #[.agg #[.int .i64 (lastQ m j).1, .int .i64 (lastQ m j).2.1, .int .i64 (lastQ m j).2.2.1, .int .i64 (lastQ m j).2.2.2], .bool (m j).isSome]) ∧ Below w.heap.size w w' := by
  obtain ⟨W, hW⟩ : ∃ W, W = (w.alloc (.cells #[.int .i64 z, s1, .slice a2 ds.length c2] 28)).alloc (.cells #[.int .i64 0, .int .i64 0, .int .i64 0, .int .i64 0] 94) := ⟨_, rfl⟩
  have bW : Below w.heap.size w W := by rw [hW]; exact ((Below.refl _ _).alloc (Nat.le_refl _) _).alloc (by simp) _
  have BW : Hid (Below w.heap.size w W) := bW
  have PW : Hid (Blk W w.heap.size #[.int .i64 z, s1, .slice a2 ds.length c2] 28) := by show Blk _ _ _ _; rw [hW]; exact (Blk.new _ _ _).alloc _
  have ZW : Hid (Blk W (w.heap.size + 1) #[.int .i64 0, .int .i64 0, .int .i64 0, .int .i64 0] 94) := by show Blk _ _ _ _; rw [hW]; exact Blk.new2 _ _ _ _
  have S2 : Hid (Sl4 W a2 ds) := h.below bW
  have HW : Hid (W = _) := hW
  have HL : ds.length ≤ 3 := by rw [hds]; exact listM_len m
  have NO : Hid (m j = none → lastQ m j = q0 ∧ (m j).isSome = false) := fun h => by unfold lastQ; rw [h]; exact ⟨rfl, rfl⟩
  have YES : Hid (∀ t, m j = some t → lastQ m j = ((j : Int), t.1, t.2.1, t.2.2) ∧ (m j).isSome = true) := fun t h => by unfold lastQ; rw [h]; exact ⟨rfl, rfl⟩
  have ATK : Hid (∀ k, k < ds.length → ∃ i t, i < 3 ∧ m i = some t ∧ ds.getD k q0 = ((i : Int), t.1, t.2.1, t.2.2)) := fun k hk => by subst hds; exact listM_at hk
  have SOME : Hid (∀ t, m j = some t → ∃ i, i < ds.length ∧ ds.getD i q0 = ((j : Int), t.1, t.2.1, t.2.2)) := fun t ht => by subst hds; exact listM_some hj ht
  generalize lastQ m j = lq at NO YES ⊢
  generalize hmj : m j = mj at NO YES SOME ⊢
  obtain ⟨p0, p1, p2⟩ := PW.out.cells3
  obtain ⟨z0, z1, z2, z3⟩ := ZW.out.cells4
  have fz := ZW.out.frozen
  have HMJ : Hid (m j = mj) := hmj
  clear h hW bW hmj hds
  go_enter Tryz.func87, Tryz.ntmps87
  go_upto_region 1 with fail
  rw [← HW.out]
  go_wp2_with fail
  go_loop [6] (fun i => ∃ k : Nat, k ≤ ds.length ∧ i = .int .i64 k ∧ Hid (noneD ds (j : Int) k)) (fun i => ds.length - (intOf i).toNat)
  case atStart => exact ⟨0, Nat.zero_le _, rfl, fun i hi => by omega⟩
  case round =>
    obtain ⟨k, hk, rfl, hN⟩ := hrel
    by_cases hlt : k < ds.length
    · obtain ⟨i, t, hi, hmi, hat⟩ := ATK.out k hlt
      obtain ⟨b2, o2, rfl, a4⟩ : ∃ b2 o2, a2 = some ⟨b2, o2, none⟩ ∧ At4 W b2 o2 ds := by
        rcases S2.out with h | h
        · rw [h] at hlt; simp at hlt
        · exact h
      obtain ⟨d0, d1, d2, d3⟩ := a4.2 k hlt
      rw [hat] at d0 d1 d2 d3
      simp only at d0 d1 d2 d3
      obtain ⟨t1, t2, t3⟩ := t
      by_cases e : i = j
      · subst e
        have Y := YES.out (t1, t2, t3) (by rw [← HMJ.out]; exact hmi)
        have HY : Hid (lq = ((i : Int), t1, t2, t3) ∧ mj.isSome = true) := Y
        have ej : (((i : Int)) == (i : Int)) = true := by simp
        have ZS : Hid (Blk ((((W.setCell ⟨w.heap.size + 1, 0, none⟩ (.int .i64 (i : Int))).setCell ⟨w.heap.size + 1, 1, none⟩ (.int .i64 t1)).setCell ⟨w.heap.size + 1, 2, none⟩ (.int .i64 t2)).setCell ⟨w.heap.size + 1, 3, none⟩ (.int .i64 t3)) (w.heap.size + 1) #[.int .i64 (i : Int), .int .i64 t1, .int .i64 t2, .int .i64 t3] 94) := ((((ZW.out.set 0 _).set 1 _).set 2 _).set 3 _).eq (by simp)
        have BS : Hid (Below w.heap.size w ((((W.setCell ⟨w.heap.size + 1, 0, none⟩ (.int .i64 (i : Int))).setCell ⟨w.heap.size + 1, 1, none⟩ (.int .i64 t1)).setCell ⟨w.heap.size + 1, 2, none⟩ (.int .i64 t2)).setCell ⟨w.heap.size + 1, 3, none⟩ (.int .i64 t3))) := (((BW.out.setCell (by show w.heap.size ≤ w.heap.size + 1; omega) _).setCell (by show w.heap.size ≤ w.heap.size + 1; omega) _).setCell (by show w.heap.size ≤ w.heap.size + 1; omega) _).setCell (by show w.heap.size ≤ w.heap.size + 1; omega) _
        clear Y hmi hat a4 hN
        go_wp2_with fail
        obtain ⟨c0, c1, c2', c3⟩ := ZS.out.cells4
        refine bodyPost_ret (v := .tuple #[.agg #[.int .i64 (i : Int), .int .i64 t1, .int .i64 t2, .int .i64 t3], .bool true]) (by simp [results, Tryz.results87, go_sem, c0, c1, c2', c3]) rfl ?_
        rw [HY.out.1, HY.out.2]
        exact ⟨rfl, BS.out⟩
      · have ej : (((i : Int)) == (j : Int)) = false := by simp; omega
        have NX : Hid (noneD ds (j : Int) (k + 1)) := fun i' hi' => by
          rcases (by omega : i' < k ∨ i' = k) with h | h
          · exact hN.out i' h
          · subst h; rw [hat]; simp only; omega
        clear hmi hat a4
        go_wp2_with fail
        go_round
        case rel => exact ⟨k + 1, by omega, by go_num, NX.out⟩
        case measure => simp [intOf]; omega
    · obtain rfl : k = ds.length := by omega
      have MN : mj = none := by
        cases e : mj with
        | none => rfl
        | some t =>
          obtain ⟨i, hi, hat⟩ := SOME.out t e
          have := hN.out i hi
          rw [hat] at this
          exact absurd rfl this
      have HN : Hid (lq = q0 ∧ mj.isSome = false) := NO.out MN
      have ZS : Hid (Blk ((((W.setCell ⟨w.heap.size + 1, 0, none⟩ (.int .i64 0)).setCell ⟨w.heap.size + 1, 1, none⟩ (.int .i64 0)).setCell ⟨w.heap.size + 1, 2, none⟩ (.int .i64 0)).setCell ⟨w.heap.size + 1, 3, none⟩ (.int .i64 0)) (w.heap.size + 1) #[.int .i64 0, .int .i64 0, .int .i64 0, .int .i64 0] 94) := ((((ZW.out.set 0 _).set 1 _).set 2 _).set 3 _).eq (by simp)
      have BS : Hid (Below w.heap.size w ((((W.setCell ⟨w.heap.size + 1, 0, none⟩ (.int .i64 0)).setCell ⟨w.heap.size + 1, 1, none⟩ (.int .i64 0)).setCell ⟨w.heap.size + 1, 2, none⟩ (.int .i64 0)).setCell ⟨w.heap.size + 1, 3, none⟩ (.int .i64 0))) := (((BW.out.setCell (by show w.heap.size ≤ w.heap.size + 1; omega) _).setCell (by show w.heap.size ≤ w.heap.size + 1; omega) _).setCell (by show w.heap.size ≤ w.heap.size + 1; omega) _).setCell (by show w.heap.size ≤ w.heap.size + 1; omega) _
      clear MN hN
      go_wp2_with fail
      obtain ⟨c0, c1, c2', c3⟩ := ZS.out.cells4
      refine bodyPost_ret (v := .tuple #[.agg #[.int .i64 0, .int .i64 0, .int .i64 0, .int .i64 0], .bool false]) (by simp [results, Tryz.results87, go_sem, c0, c1, c2', c3]) rfl ?_
      rw [HN.out.1, HN.out.2]
      exact ⟨rfl, BS.out⟩
end Go.Proofs.YtbecdihfopjlhaaGreatDoor.Own

namespace Go.Proofs.YtbecdihfopjlhaaGreatDoor.Own
open Go.RowKit

/-- Of the blocks that were there none but rb has turned. -/
structure Bar (rb : Nat) (w w' : World) : Prop where
  os : w'.os = w.os
  tape : w'.tape = w.tape
  output : w'.output = w.output
  size : w.heap.size ≤ w'.heap.size
  block : ∀ k, k < w.heap.size → k ≠ rb → w'.heap[k]? = w.heap[k]?

theorem Bar.refl (rb : Nat) (w : World) : Bar rb w w := ⟨rfl, rfl, rfl, Nat.le_refl _, fun _ _ _ => rfl⟩
theorem Bar.trans {rb : Nat} {a b c : World} (h : Bar rb a b) (k : Bar rb b c) : Bar rb a c :=
  ⟨k.os.trans h.os, k.tape.trans h.tape, k.output.trans h.output, Nat.le_trans h.size k.size, fun i hi hn => (k.block i (Nat.lt_of_lt_of_le hi h.size) hn).trans (h.block i hi hn)⟩
theorem Bar.ofBelow {rb : Nat} {w w' : World} (h : Below w.heap.size w w') : Bar rb w w' := ⟨h.os, h.tape, h.output, h.size, fun k hk _ => h.block k hk⟩
theorem Bar.ofOnly {rb : Nat} {w w' : World} (h : Only rb w w') : Bar rb w w' := ⟨h.os, h.tape, h.output, Nat.le_of_eq h.size.symm, fun k _ hn => h.block k hn⟩
theorem Bar.setCell {rb : Nat} {a w : World} (h : Bar rb a w) {p : Addr} (hp : a.heap.size ≤ p.block) (v : Value) : Bar rb a (w.setCell p v) :=
  ⟨h.os, h.tape, h.output, by simpa [World.setCell] using h.size, fun k hk hn => by rw [Below.heap_setCell _ _ _ _ (by omega)]; exact h.block k hk hn⟩
theorem Bar.alloc {rb : Nat} {a w : World} (h : Bar rb a w) (o : Obj) : Bar rb a (w.alloc o) :=
  h.trans (Bar.ofBelow ((Below.refl _ _).alloc (Nat.le_refl _) _))
theorem Bar.below {rb B : Nat} {w w' : World} (h : Bar rb w w') (hB : B ≤ rb) (hB2 : B ≤ w.heap.size) : Below B w w' := ⟨h.os, h.tape, h.output, h.size, fun k hk => h.block k (by omega) (by omega)⟩
end Go.Proofs.YtbecdihfopjlhaaGreatDoor.Own

namespace Go.Proofs.YtbecdihfopjlhaaGreatDoor.Own
open Go.RowKit
set_option linter.unusedVariables false
set_option linter.unusedSimpArgs false

def flat4 (xs : List Q4) : List Value := xs.flatMap fun p => [.int .i64 p.1, .int .i64 p.2.1, .int .i64 p.2.2.1, .int .i64 p.2.2.2]
theorem flat4_length (xs : List Q4) : (flat4 xs).length = xs.length * 4 := by
  induction xs with
  | nil => rfl
  | cons p r ih => simp [flat4] at ih ⊢; omega
theorem flat4_snoc (xs : List Q4) (p : Q4) : flat4 (xs ++ [p]) = flat4 xs ++ [.int .i64 p.1, .int .i64 p.2.1, .int .i64 p.2.2.1, .int .i64 p.2.2.2] := by simp [flat4]
theorem flat4_get (xs : List Q4) (i : Nat) (h : i < xs.length) : (flat4 xs)[i * 4]? = some (.int .i64 (xs.getD i q0).1) ∧ (flat4 xs)[i * 4 + 1]? = some (.int .i64 (xs.getD i q0).2.1) ∧ (flat4 xs)[i * 4 + 2]? = some (.int .i64 (xs.getD i q0).2.2.1) ∧ (flat4 xs)[i * 4 + 3]? = some (.int .i64 (xs.getD i q0).2.2.2) := by
  induction xs generalizing i with
  | nil => simp at h
  | cons p r ih =>
    cases i with
    | zero => simp [flat4]
    | succ i =>
      have := ih i (by simpa using h)
      simp only [flat4, List.flatMap_cons] at this ⊢
      rw [show (i + 1) * 4 = i * 4 + 4 by omega, show i * 4 + 4 + 1 = i * 4 + 1 + 4 by omega, show i * 4 + 4 + 2 = i * 4 + 2 + 4 by omega, show i * 4 + 4 + 3 = i * 4 + 3 + 4 by omega]
      simpa using this

/-- v is a slice of the instructions xs, its memory from B on its own. -/
def OwnQ (w : World) (B : Nat) (v : Value) (xs : List Q4) : Prop := w.ownsRow B 56 4 v xs.length (flat4 xs)

theorem OwnQ.keep {w w' : World} {B : Nat} {v : Value} {xs : List Q4} (h : OwnQ w B v xs) (hb : Below w.heap.size w w') : OwnQ w' B v xs := by
  obtain ⟨h1, h2⟩ := h
  refine ⟨h1, ?_⟩
  rcases h2 with h2 | ⟨g, cap, cur, hv, hg, hh, r⟩
  · exact .inl h2
  · exact .inr ⟨g, cap, cur, hv, hg, by rw [hb.block g (Array.getElem?_eq_some_iff.1 hh).1]; exact hh, r⟩
theorem OwnQ.bar {w w' : World} {B rb : Nat} {v : Value} {xs : List Q4} (h : OwnQ w B v xs) (hb : Bar rb w w') (hr : w.heap.size ≤ rb) : OwnQ w' B v xs := by
  obtain ⟨h1, h2⟩ := h
  refine ⟨h1, ?_⟩
  rcases h2 with h2 | ⟨g, cap, cur, hv, hg, hh, r⟩
  · exact .inl h2
  · have := (Array.getElem?_eq_some_iff.1 hh).1
    exact .inr ⟨g, cap, cur, hv, hg, by rw [hb.block g this (by omega)]; exact hh, r⟩
theorem OwnQ.lower {w : World} {B B' : Nat} {v : Value} {xs : List Q4} (h : OwnQ w B v xs) (hB : B' ≤ B) : OwnQ w B' v xs := by
  obtain ⟨h1, h2⟩ := h
  refine ⟨h1, ?_⟩
  rcases h2 with h2 | ⟨g, cap, cur, hv, hg, r⟩
  · exact .inl h2
  · exact .inr ⟨g, cap, cur, hv, Nat.le_trans hB hg, r⟩
theorem OwnQ.open {w : World} {B : Nat} {v : Value} {xs : List Q4} (h : OwnQ w B v xs) : ∃ a cap, v = .slice a xs.length cap ∧ Sl4 w a xs ∧ xs.length ≤ cap := by
  obtain ⟨h1, h2⟩ := h
  rcases h2 with ⟨hv, h0⟩ | ⟨g, cap, cur, hv, hg, hh, hmc, hml, hsz, htk⟩
  · refine ⟨none, 0, by rw [hv, h0], .inl (List.eq_nil_of_length_eq_zero h0), by omega⟩
  · refine ⟨some ⟨g, 0, none⟩, cap, hv, .inr ⟨g, 0, rfl, (Array.getElem?_eq_some_iff.1 hh).1, fun i hi => ?_⟩, hmc⟩
    have e := flat4_get xs i hi
    rw [← htk, List.getElem?_take_of_lt (by omega), List.getElem?_take_of_lt (by omega), List.getElem?_take_of_lt (by omega), List.getElem?_take_of_lt (by omega)] at e
    rw [cell_heap hh, cell_heap hh, cell_heap hh, cell_heap hh, Nat.zero_add]
    simpa using e

theorem four_new (w : World) (a b c d : Value) : ∀ j x, [a, b, c, d][j]? = some x → (w.alloc (.cells #[a, b, c, d] 56)).cell? ((⟨w.heap.size, 0, none⟩ : Addr).add j) = some x := by
  intro j x hj
  match j, hj with
  | 0, hj => simp at hj; subst hj; simp [Addr.add]
  | 1, hj => simp at hj; subst hj; simp [Addr.add]
  | 2, hj => simp at hj; subst hj; simp [Addr.add]
  | 3, hj => simp at hj; subst hj; simp [Addr.add]

theorem infoIns5 : (Tryz.prog.info? 56).map (fun i => (i.zero, i.size, i.bytes)) = some (some (.agg #[.int .i64 0, .int .i64 0, .int .i64 0, .int .i64 0]), 4, 32) := by kernel_rfl

theorem getD_set4 (xs : List Q4) (i j : Nat) (v : Q4) (hi : i < xs.length) : (xs.set i v).getD j q0 = if i = j then v else xs.getD j q0 := by
  simp only [List.getD_eq_getElem?_getD, List.getElem?_set]
  by_cases e : i = j
  · simp [e, show j < xs.length by omega]
  · simp [e]

/-- Of the blocks that were there none but rb has turned, and the row's own one is not rb. -/
theorem OwnQ.bar2 {w w' : World} {B rb : Nat} {v : Value} {xs : List Q4} (h : OwnQ w B v xs) (hb : Bar rb w w') (hr : rb < B) : OwnQ w' B v xs := by
  obtain ⟨h1, h2⟩ := h
  refine ⟨h1, ?_⟩
  rcases h2 with h2 | ⟨g, cap, cur, hv, hg, hh, r⟩
  · exact .inl h2
  · have := (Array.getElem?_eq_some_iff.1 hh).1
    exact .inr ⟨g, cap, cur, hv, hg, by rw [hb.block g this (by omega)]; exact hh, r⟩

theorem flat4_ext {xs : List Q4} {l : List Value} (hl : l.length = xs.length * 4) (h : ∀ i, i < xs.length → l[i * 4]? = some (.int .i64 (xs.getD i q0).1) ∧ l[i * 4 + 1]? = some (.int .i64 (xs.getD i q0).2.1) ∧ l[i * 4 + 2]? = some (.int .i64 (xs.getD i q0).2.2.1) ∧ l[i * 4 + 3]? = some (.int .i64 (xs.getD i q0).2.2.2)) : l = flat4 xs := by
  apply List.ext_getElem?
  intro j
  by_cases hj : j < xs.length * 4
  · have hk : j / 4 < xs.length := by omega
    have e1 := h (j / 4) hk
    have e2 := flat4_get xs (j / 4) hk
    have m : j % 4 = 0 ∨ j % 4 = 1 ∨ j % 4 = 2 ∨ j % 4 = 3 := by omega
    rcases m with m | m | m | m
    · rw [show j = j / 4 * 4 by omega, e1.1, e2.1]
    · rw [show j = j / 4 * 4 + 1 by omega, e1.2.1, e2.2.1]
    · rw [show j = j / 4 * 4 + 2 by omega, e1.2.2.1, e2.2.2.1]
    · rw [show j = j / 4 * 4 + 3 by omega, e1.2.2.2, e2.2.2.2]
  · rw [List.getElem?_eq_none (by omega), List.getElem?_eq_none (by rw [flat4_length]; omega)]

/-- A number of an instruction of such a slice, turned. -/
theorem OwnQ.set {w : World} {B g cap : Nat} {xs : List Q4} (h : OwnQ w B (.slice (some ⟨g, 0, none⟩) xs.length cap) xs) (i f : Nat) (hi : i < xs.length) (hf : f < 4) (n : Int) (q : Q4)
    (hq : q = (if f = 0 then n else (xs.getD i q0).1, if f = 1 then n else (xs.getD i q0).2.1, if f = 2 then n else (xs.getD i q0).2.2.1, if f = 3 then n else (xs.getD i q0).2.2.2)) :
    OwnQ (w.setCell ⟨g, i * 4 + f, none⟩ (.int .i64 n)) B (.slice (some ⟨g, 0, none⟩) xs.length cap) (xs.set i q) := by
  obtain ⟨h1, h2⟩ := h
  rcases h2 with ⟨hv, h0⟩ | ⟨g', cap', cur, hv, hg, hh, hmc, hml, hsz, htk⟩
  · omega
  injection hv with e1 e2 e3
  injection e1 with e1
  injection e1 with e1
  subst e1 e3
  have hl4 := flat4_length xs
  refine ⟨by rw [flat4_length], .inr ⟨g, cap, cur.setIfInBounds (i * 4 + f) (.int .i64 n), by rw [List.length_set], hg, ?_, by rw [List.length_set]; exact hmc, hml, by simpa using hsz, ?_⟩⟩
  · simp [World.setCell, Array.getElem?_modify, hh]
  · rw [List.length_set]
    apply flat4_ext
    · rw [List.length_set, List.length_take]
      simp
      omega
    · intro j hj
      rw [List.length_set] at hj
      have e := flat4_get xs j hj
      rw [← htk] at e
      rw [List.getElem?_take_of_lt (by omega), List.getElem?_take_of_lt (by omega), List.getElem?_take_of_lt (by omega), List.getElem?_take_of_lt (by omega)] at e
      simp only [Array.getElem?_toList] at e
      rw [List.getElem?_take_of_lt (by omega), List.getElem?_take_of_lt (by omega), List.getElem?_take_of_lt (by omega), List.getElem?_take_of_lt (by omega), getD_set4 _ _ _ _ hi]
      simp only [Array.getElem?_toList, Array.getElem?_setIfInBounds]
      by_cases hij : i = j
      · subst hij
        rw [if_pos rfl, hq]
        have b0 : i * 4 + f < cur.size := by omega
        match f, hf with
        | 0, _ => simp [e, b0, show ¬ (i * 4 = i * 4 + 1) by omega]; omega
        | 1, _ => simp [e, b0]
        | 2, _ => simp [e, b0]
        | 3, _ => simp [e, b0]
      · rw [if_neg hij, if_neg (by omega), if_neg (by omega), if_neg (by omega), if_neg (by omega)]
        exact e

/-- Every number of the instructions is small. -/
def SmQ (q : Q4) : Prop := (-2000000 ≤ q.1 ∧ q.1 ≤ 2000000) ∧ (-2000000 ≤ q.2.1 ∧ q.2.1 ≤ 2000000) ∧ (-2000000 ≤ q.2.2.1 ∧ q.2.2.1 ≤ 2000000) ∧ (-2000000 ≤ q.2.2.2 ∧ q.2.2.2 ≤ 2000000)
def Sm4 (xs : List Q4) : Prop := ∀ k, k < xs.length → SmQ (xs.getD k q0)
theorem Sm4.nil : Sm4 [] := fun k hk => by simp at hk
theorem Sm4.snoc {xs : List Q4} (h : Sm4 xs) {q : Q4} (hq : SmQ q) : Sm4 (xs ++ [q]) := by
  intro k hk
  simp at hk
  by_cases e : k < xs.length
  · have e2 : (xs ++ [q]).getD k q0 = xs.getD k q0 := by simp [List.getD, List.getElem?_append_left e]
    rw [e2]; exact h k e
  · have e2 : (xs ++ [q]).getD k q0 = q := by
      have : k = xs.length := by omega
      simp [List.getD, this]
    rw [e2]; exact hq
theorem Sm4.set {xs : List Q4} (h : Sm4 xs) (i : Nat) (hi : i < xs.length) {q : Q4} (hq : SmQ q) : Sm4 (xs.set i q) := by
  intro k hk
  rw [List.length_set] at hk
  rw [getD_set4 _ _ _ _ hi]
  by_cases e : i = k
  · rw [if_pos e]; exact hq
  · rw [if_neg e]; exact h k hk
end Go.Proofs.YtbecdihfopjlhaaGreatDoor.Own
