/-
  Own texts, bundled: RunMap, LedMap.
-/
import Derived.Test.YtbecdihfopjlhaaGreatDoorPk14
import Derived.Test.YtbecdihfopjlhaaGreatDoorPk16
import Derived.Maps.OwnSet
import Derived.Test.YtbecdihfopjlhaaGreatDoorPk7
import Derived.Test.YtbecdihfopjlhaaGreatDoorPk8
import Derived.DeepKeys4
import Derived.Maps.RangeWalk
namespace Go.Proofs.YtbecdihfopjlhaaGreatDoor.Own
open Go.RowKit Go.Maps
set_option linter.unusedVariables false

theorem idxBox_map {xs ys : List P2} (h : xs.map Prod.fst = ys.map Prod.fst) (j : Nat) : idxBox xs j = idxBox ys j := by
  have e : ∀ zs : List P2, idxBox zs j = (zs.map Prod.fst).findIdx (fun x => x == (j : Int)) := by
    intro zs
    unfold idxBox
    rw [List.findIdx_map]
    rfl
  rw [e, e, h]
theorem hasBox_putP (ys : List P2) (j i : Nat) (n : Int) : hasBox (putP ys j n) i = (hasBox ys i || decide (j = i)) := by
  cases h : hasBox ys i || decide (j = i) with
  | true =>
    rw [hasBox_iff, putP_fst]
    simp only [Bool.or_eq_true, decide_eq_true_eq] at h
    rcases h with h | rfl
    · have := hasBox_iff.1 h
      split
      · exact this
      · exact List.mem_append_left _ this
    · split
      · rename_i h; exact hasBox_iff.1 h
      · simp
  | false =>
    rw [hasBox_no, putP_fst]
    simp only [Bool.or_eq_false_iff, decide_eq_false_iff_not] at h
    have := hasBox_no.1 h.1
    split
    · exact this
    · simp only [List.mem_append, List.mem_singleton, not_or]
      exact ⟨this, by omega⟩
theorem inBox_put_same (ys : List P2) (j : Nat) (n : Int) : inBox [] (putP ys j n) j = n := by
  have hh := hasBox_putP ys j j n
  simp only [decide_true, Bool.or_true] at hh
  unfold inBox
  rw [if_pos hh]
  cases h : hasBox ys j with
  | true =>
    have hl := idx_lt h
    have e : idxBox (putP ys j n) j = idxBox ys j := idxBox_map (by rw [putP_fst, if_pos h]) j
    rw [e]
    unfold putP
    rw [if_pos h, getD_set2 _ _ _ _ hl, if_pos rfl]
  | false =>
    have e : putP ys j n = ys ++ [((j : Int), n)] := by unfold putP; rw [h]; rfl
    have e2 : idxBox (ys ++ [((j : Int), n)]) j = ys.length := by
      unfold idxBox
      rw [List.findIdx_append]
      have hl : ys.findIdx (fun p => p.1 == (j : Int)) = ys.length := by
        rw [List.findIdx_eq_length]
        unfold hasBox at h
        simp only [List.any_eq_false] at h
        intro x hx
        simpa using h x hx
      rw [hl]
      simp
    rw [e, e2]
    simp [List.getD]
theorem inBox_put_other (ys : List P2) (j i : Nat) (n : Int) (hij : j ≠ i) (hi : hasBox ys i = true) : inBox [] (putP ys j n) i = inBox [] ys i := by
  have hh : hasBox (putP ys j n) i = true := by rw [hasBox_putP, hi]; rfl
  unfold inBox
  rw [if_pos hh, if_pos hi]
  have hl := idx_lt hi
  cases h : hasBox ys j with
  | true =>
    have e : idxBox (putP ys j n) i = idxBox ys i := idxBox_map (by rw [putP_fst, if_pos h]) i
    have hne : idxBox ys j ≠ idxBox ys i := fun e => by
      have h1 := idx_at h
      rw [e, idx_at hi] at h1
      omega
    rw [e]
    unfold putP
    rw [if_pos h, getD_set2 _ _ _ _ (idx_lt h), if_neg hne]
  | false =>
    have e : putP ys j n = ys ++ [((j : Int), n)] := by unfold putP; rw [h]; rfl
    have e2 : idxBox (ys ++ [((j : Int), n)]) i = idxBox ys i := by
      unfold idxBox
      rw [List.findIdx_append]
      have : ys.findIdx (fun p => p.1 == (i : Int)) < ys.length := hl
      rw [if_pos this]
    rw [e, e2]
    simp only [List.getD_eq_getElem?_getD]
    rw [List.getElem?_append_left hl]

theorem intKeys : Keyed Tryz.prog 3 := int_keyed Tryz.underlying3
theorem zeroInt (w : World) : (zeroValue 3).run Tryz.prog w = .ok (.int .i64 0) w := by kernel_rfl
theorem wfNat {j : Nat} (h : j < 4) : (Lit.int .i64 (j : Int)).wf = true := WalkArith.wf_i64 (by omega)
theorem wfNum {n : Int} (h : numOk n = true) : (Lit.int .i64 n).wf = true := by
  simp only [numOk, Bool.and_eq_true, decide_eq_true_eq] at h
  exact WalkArith.wf_i64 (by omega)

/-- Block bm is a map of at most N entries that holds what is put. -/
def MapP (w : World) (bm N : Nat) (ys : List P2) : Prop := ∃ D : DataW Unit, w.ownsMap Tryz.prog 3 (plainElem Tryz.prog 3) bm N D ∧
  ∀ j : Nat, j < 4 → Maps.has D (.int .i64 (j : Int)) = hasBox ys j ∧ (hasBox ys j = true → D.atKey (.int .i64 (j : Int)) (.lit (.int .i64 0)) = .lit (.int .i64 (inBox [] ys j)))

theorem MapP.lt {w : World} {bm N : Nat} {ys : List P2} (h : MapP w bm N ys) : bm < w.heap.size := by obtain ⟨D, h, _⟩ := h; exact h.lt
theorem MapP.mono {w : World} {bm N N' : Nat} {ys : List P2} (h : MapP w bm N ys) (hn : N ≤ N') : MapP w bm N' ys := by obtain ⟨D, h, r⟩ := h; exact ⟨D, h.mono hn, r⟩
theorem MapP.made (w : World) : MapP (w.alloc (.map #[] 0)) w.heap.size 0 [] := ⟨_, World.ownsMap_made _ _ _ _, fun j hj => ⟨rfl, fun h => by cases h⟩⟩
theorem MapP.block {w w' : World} {bm N : Nat} {ys : List P2} (h : MapP w bm N ys) (hb : w'.heap[bm]? = w.heap[bm]?) : MapP w' bm N ys := by
  obtain ⟨D, ⟨es, clock, h1, h2⟩, r⟩ := h
  exact ⟨D, ⟨es, clock, by rw [hb]; exact h1, h2⟩, r⟩
theorem lit_inj {a b : Int} (h : (DataW.lit (.int .i64 a) : DataW Unit) = .lit (.int .i64 b)) : a = b := by
  injection h with h
  injection h with _ h
theorem MapP.look_ok {w : World} {bm N : Nat} {ys : List P2} (h : MapP w bm N ys) (j : Nat) (hj : j < 4) :
    ∃ c : Int, (Instr.lookup 101 (.map (some bm)) (.int .i64 (j : Int)) true).run Tryz.prog w = .ok (.tuple #[.int .i64 c, .bool (hasBox ys j)]) w ∧ (hasBox ys j = true → c = inBox [] ys j) := by
  obtain ⟨D, h, r⟩ := h
  obtain ⟨r1, r2⟩ := r j hj
  obtain ⟨v, ps, hrun, hv⟩ := h.look_ok intKeys Tryz.underlying101 (zeroInt w) (plainElem_int Tryz.underlying3 (by decide)) (keyOf_int_mk Tryz.underlying3 (wfNat hj))
  obtain ⟨c, rfl, hc, _⟩ := plainElem_int_inv Tryz.underlying3 hv
  refine ⟨c, by rw [hrun, r1], fun hb => ?_⟩
  have h3 : D.atKey (.int .i64 (j : Int)) (.lit (.int .i64 0)) = .lit (.int .i64 c) := congrArg Prod.fst hc
  exact lit_inj ((r2 hb).symm.trans h3).symm
theorem MapP.look_ok' {w : World} {bm N : Nat} {ys : List P2} (h : MapP w bm N ys) (j : Nat) (hj : j < 4) :
    (Instr.lookup 101 (.map (some bm)) (.int .i64 (j : Int)) true).run Tryz.prog w = .ok (.tuple #[.int .i64 (if hasBox ys j then inBox [] ys j else 0), .bool (hasBox ys j)]) w := by
  obtain ⟨D, h, r⟩ := h
  obtain ⟨r1, r2⟩ := r j hj
  obtain ⟨v, ps, hrun, hv⟩ := h.look_ok intKeys Tryz.underlying101 (zeroInt w) (plainElem_int Tryz.underlying3 (by decide)) (keyOf_int_mk Tryz.underlying3 (wfNat hj))
  obtain ⟨c, rfl, hc, _⟩ := plainElem_int_inv Tryz.underlying3 hv
  have h3 : D.atKey (.int .i64 (j : Int)) (.lit (.int .i64 0)) = .lit (.int .i64 c) := congrArg Prod.fst hc
  have ec : c = if hasBox ys j then inBox [] ys j else 0 := by
    cases hb : hasBox ys j with
    | true => exact lit_inj (h3.symm.trans (r2 hb))
    | false =>
      rw [hb] at r1
      exact lit_inj (h3.symm.trans (atKey_of_not_has r1 _))
  rw [hrun, r1, ec]
theorem MapP.look {w : World} {bm N : Nat} {ys : List P2} (h : MapP w bm N ys) (j : Nat) (hj : j < 4) (hb : hasBox ys j = true) :
    (Instr.lookup 101 (.map (some bm)) (.int .i64 (j : Int)) false).run Tryz.prog w = .ok (.int .i64 (inBox [] ys j)) w := by
  obtain ⟨D, h, r⟩ := h
  obtain ⟨r1, r2⟩ := r j hj
  obtain ⟨c, hrun, hat, _⟩ := h.lookup_int intKeys Tryz.underlying101 Tryz.underlying3 (zeroInt w) (keyOf_int_mk Tryz.underlying3 (wfNat hj))
  rw [hrun, lit_inj ((r2 hb).symm.trans hat)]
theorem MapP.put {w : World} {bm N : Nat} {ys : List P2} (h : MapP w bm N ys) (hN : N ≤ 1000) (j : Nat) (hj : j < 4) (n : Int) (hn : numOk n = true) :
    ∃ w', (Instr.mapUpdate 101 (.map (some bm)) (.int .i64 (j : Int)) (.int .i64 n)).run Tryz.prog w = .ok () w' ∧ MapP w' bm (N + 1) (putP ys j n) ∧ w.mapTurned w' bm := by
  obtain ⟨D, h, r⟩ := h
  obtain ⟨w', hrun, ho, ht⟩ := h.store intKeys Tryz.underlying101 (by unfold maxLen; omega) (keyOf_int_mk Tryz.underlying3 (wfNat hj)) (plainElem_int Tryz.underlying3 (wfNum hn))
  refine ⟨w', hrun, ⟨_, ho, fun i hi => ?_⟩, ht⟩
  obtain ⟨r1, r2⟩ := r i hi
  by_cases e : j = i
  · subst e
    refine ⟨by rw [has_put_same h.isMap (by trivial), hasBox_putP]; simp, fun _ => ?_⟩
    rw [atKey_put_same h.isMap (by trivial), inBox_put_same]
  · have hne : (Lit.int .i64 (i : Int)) ≠ Lit.int .i64 (j : Int) := fun e' => by injection e' with _ e'; omega
    refine ⟨by rw [has_put_other hne, r1, hasBox_putP]; simp [e], fun hb => ?_⟩
    rw [hasBox_putP] at hb
    simp only [e, decide_false, Bool.or_false] at hb
    rw [atKey_put_other hne, r2 hb, inBox_put_other _ _ _ _ e hb]
theorem mapTurned.kq {B bm : Nat} {L : List Nat} {w w' : World} (h : w.mapTurned w' bm) (hB : B ≤ w.heap.size) (hL : bm ∈ L) : Turned L w w' := by
  have g := h.grown
  exact ⟨g.os, g.tape, g.output, g.size, fun k hk hn => g.block k hk (fun e => hn (by injection e with e; rw [e]; exact hL))⟩
theorem mapTurned.turned {bm : Nat} {w w' : World} (h : w.mapTurned w' bm) : Turned [bm] w w' := by
  have g := h.grown
  exact ⟨g.os, g.tape, g.output, g.size, fun k hk hn => g.block k hk (fun e => hn (by injection e with e; rw [e]; simp))⟩
end Go.Proofs.YtbecdihfopjlhaaGreatDoor.Own

namespace Go.Proofs.YtbecdihfopjlhaaGreatDoor.Own
open Go.RowKit Go.Maps
set_option linter.unusedVariables false

theorem laidOutA : laidOutB Tryz.prog = true := by kernel_rfl
theorem reqLaw : WideMaps.KeyLaw Tryz.prog 46 := deep_law_laid laidOutA (m := 3) (by omega) (of_decide_eq_true (by kernel_rfl)) (by kernel_rfl) (by rw [Tryz.underlying46])
theorem reqKeys : Keyed Tryz.prog 46 := Keyed.of_law reqLaw

/-- A request as a map's key. -/
def kLit (a b : Int) : Lit := .string (keyBytes [.int .i64 a, .int .i64 b])
theorem keyReq {a b : Int} (ha : (Lit.int .i64 a).wf = true) (hb : (Lit.int .i64 b).wf = true) : keyOf Tryz.prog 46 (.agg #[.int .i64 a, .int .i64 b]) = some (kLit a b) := by
  have hk : Tryz.prog.keyType 46 = true := by kernel_rfl
  have hc : Tryz.prog.cellsOf 46 = 2 := by kernel_rfl
  have hi : Tryz.prog.cellsOf 3 = 1 := by kernel_rfl
  obtain ⟨n, hn⟩ : ∃ n, Tryz.prog.types.size + 1 = n + 2 := ⟨Tryz.prog.types.size - 1, by have h : 1 < Tryz.prog.types.size := of_decide_eq_true (by kernel_rfl); omega⟩
  unfold keyOf
  rw [Tryz.underlying46]
  simp only [hk, Bool.true_and]
  rw [show (Value.agg #[.int .i64 a, .int .i64 b]).formed Tryz.prog 46 = true by simp [Value.formed, Tryz.underlying46, hc]]
  simp only [if_true]
  rw [hn]
  simp [Program.keyLits, Tryz.underlying46, Tryz.underlying3, hc, hi, ha, hb, Value.cells, kLit]
theorem kLit_inj {a b a' b' : Int} (ha : (Lit.int .i64 a).wf = true) (hb : (Lit.int .i64 b).wf = true) (ha' : (Lit.int .i64 a').wf = true) (hb' : (Lit.int .i64 b').wf = true) (h : kLit a b = kLit a' b') : a = a' ∧ b = b' := by
  have e := reqKeys.inj (keyReq ha hb) (by rw [keyReq ha' hb', h])
  injection e with e
  simp at e
  exact e

/-- How a request ended, as a map's element. -/
def endL : List Value → Option (DataW Unit × List MemPlace)
  | [.int .i64 a, .int .i64 b] => some (.agg [.lit (.int .i64 a), .lit (.int .i64 b)], [])
  | _ => none
def endR : Value → Option (DataW Unit × List MemPlace)
  | .agg cs => endL cs.toList
  | _ => none
theorem endR_mk (a b : Int) : endR (.agg #[.int .i64 a, .int .i64 b]) = some (.agg [.lit (.int .i64 a), .lit (.int .i64 b)], []) := rfl
theorem endR_inv {v : Value} {z : DataW Unit × List MemPlace} (h : endR v = some z) : ∃ a b, v = .agg #[.int .i64 a, .int .i64 b] ∧ z = (.agg [.lit (.int .i64 a), .lit (.int .i64 b)], []) := by
  cases v <;> simp only [endR] at h <;> try (cases h)
  rename_i cs
  obtain ⟨l⟩ := cs
  simp only at h
  unfold endL at h
  split at h
  · injection h with h
    rename_i l' a b
    exact ⟨a, b, rfl, h.symm⟩
  · cases h

theorem wfWho {j : Nat} (h : j < 3) : (Lit.int .i64 (j : Int)).wf = true := WalkArith.wf_i64 (by omega)
theorem wfSeq {t : T3} (h : okT t = true) : (Lit.int .i64 t.1).wf = true := by
  simp only [okT, Bool.and_eq_true, decide_eq_true_eq] at h
  exact WalkArith.wf_i64 (by omega)

/-- Block bm is a map of at most N entries that holds the last requests of the nodes. -/
def MapM (w : World) (bm N : Nat) (m : Nat → Option T3) : Prop := ∃ D : DataW Unit, w.ownsMap Tryz.prog 46 endR bm N D ∧
  (∀ kl, Maps.has D kl = true ↔ ∃ j t, j < 3 ∧ m j = some t ∧ kl = kLit (j : Int) t.1) ∧
  (∀ j t, j < 3 → m j = some t → ∀ zd, D.atKey (kLit (j : Int) t.1) zd = .agg [.lit (.int .i64 t.2.1), .lit (.int .i64 t.2.2)])
theorem MapM.lt {w : World} {bm N : Nat} {m : Nat → Option T3} (h : MapM w bm N m) : bm < w.heap.size := by obtain ⟨D, h, _⟩ := h; exact h.lt
theorem MapM.mono {w : World} {bm N N' : Nat} {m : Nat → Option T3} (h : MapM w bm N m) (hn : N ≤ N') : MapM w bm N' m := by obtain ⟨D, h, r⟩ := h; exact ⟨D, h.mono hn, r⟩
theorem MapM.made (w : World) : MapM (w.alloc (.map #[] 0)) w.heap.size 0 (fun _ => none) :=
  ⟨_, World.ownsMap_made _ _ _ _, fun kl => ⟨fun h => (by cases h), fun ⟨j, t, _, h, _⟩ => (by cases h)⟩, fun j t _ h => (by cases h)⟩
theorem MapM.block {w w' : World} {bm N : Nat} {m : Nat → Option T3} (h : MapM w bm N m) (hb : w'.heap[bm]? = w.heap[bm]?) : MapM w' bm N m := by
  obtain ⟨D, ⟨es, clock, h1, h2⟩, r⟩ := h
  exact ⟨D, ⟨es, clock, by rw [hb]; exact h1, h2⟩, r⟩

/-- Two requests of one node that are keys are one. -/
theorem kLit_who {m : Nat → Option T3} (hm : okM m) {i j : Nat} {t u : T3} (hi : i < 3) (hj : j < 3) (ht : m i = some t) (hu : m j = some u) (h : kLit (i : Int) t.1 = kLit (j : Int) u.1) : i = j ∧ t.1 = u.1 := by
  have e := kLit_inj (wfWho hi) (wfSeq (hm i t hi ht)) (wfWho hj) (wfSeq (hm j u hj hu)) h
  exact ⟨by omega, e.2⟩

theorem zeroEnd (w : World) : (zeroValue 139).run Tryz.prog w = .ok (.agg #[.int .i64 0, .int .i64 0]) w := by kernel_rfl

set_option maxRecDepth 100000 in
/-- The look-up of a request: whether it is the last one of its node, and how it ended. -/
theorem MapM.look_ok {w : World} {bm N : Nat} {m : Nat → Option T3} (h : MapM w bm N m) (hm : okM m) (j : Nat) (hj : j < 3) (s : Int) (hs : (Lit.int .i64 s).wf = true) :
    ∃ c v, (Instr.lookup 134 (.map (some bm)) (.agg #[.int .i64 (j : Int), .int .i64 s]) true).run Tryz.prog w = .ok (.tuple #[.agg #[.int .i64 c, .int .i64 v], .bool (match m j with | some t => t.1 == s | none => false)]) w ∧ (∀ t, m j = some t → t.1 = s → c = t.2.1 ∧ v = t.2.2) := by
  obtain ⟨D, h, r1, r2⟩ := h
  obtain ⟨v, ps, hrun, hv⟩ := h.look_ok reqKeys Tryz.underlying134 (zeroEnd w) (endR_mk 0 0) (keyReq (wfWho hj) hs)
  obtain ⟨c, d, rfl, hc⟩ := endR_inv hv
  have hat : D.atKey (kLit (j : Int) s) (.agg [.lit (.int .i64 0), .lit (.int .i64 0)]) = .agg [.lit (.int .i64 c), .lit (.int .i64 d)] := congrArg Prod.fst hc
  have hb : Maps.has D (kLit (j : Int) s) = (match m j with | some t => t.1 == s | none => false) := by
    cases e : m j with
    | none =>
      simp only
      rw [Bool.eq_false_iff]
      intro hh
      obtain ⟨i, t, hi, ht, ek⟩ := (r1 _).1 hh
      have := kLit_inj (wfWho hj) hs (wfWho hi) (wfSeq (hm i t hi ht)) ek
      have e2 : i = j := by omega
      rw [e2, e] at ht
      cases ht
    | some t =>
      simp only
      rw [Bool.eq_iff_iff, r1]
      constructor
      · rintro ⟨i, u, hi, hu, ek⟩
        have := kLit_inj (wfWho hj) hs (wfWho hi) (wfSeq (hm i u hi hu)) ek
        have e2 : i = j := by omega
        rw [e2, e] at hu
        injection hu with hu
        subst hu
        simp [this.2]
      · intro ht
        exact ⟨j, t, hj, e, by rw [eq_of_beq ht]⟩
  refine ⟨c, d, by rw [hrun, hb], fun t ht hs' => ?_⟩
  have h2 := r2 j t hj ht (.agg [.lit (.int .i64 0), .lit (.int .i64 0)])
  rw [hs', hat] at h2
  injection h2 with h2
  injection h2 with h3 h4
  injection h4 with h4 _
  exact ⟨lit_inj h3, lit_inj h4⟩

set_option maxRecDepth 100000 in
/-- The look-up of a request in whatever world holds the map as it is here. -/
theorem MapM.look_all {w : World} {bm N : Nat} {m : Nat → Option T3} (h : MapM w bm N m) (hm : okM m) (j : Nat) (hj : j < 3) (s : Int) (hs : (Lit.int .i64 s).wf = true) :
    ∃ c v, (∀ V : World, V.heap[bm]? = w.heap[bm]? → (Instr.lookup 134 (.map (some bm)) (.agg #[.int .i64 (j : Int), .int .i64 s]) true).run Tryz.prog V = .ok (.tuple #[.agg #[.int .i64 c, .int .i64 v], .bool (match m j with | some t => t.1 == s | none => false)]) V) ∧
      (∀ V : World, V.heap[bm]? = w.heap[bm]? → (Instr.lookup 134 (.map (some bm)) (.agg #[.int .i64 (j : Int), .int .i64 s]) false).run Tryz.prog V = .ok (.agg #[.int .i64 c, .int .i64 v]) V) ∧ (∀ t, m j = some t → t.1 = s → c = t.2.1 ∧ v = t.2.2) := by
  obtain ⟨D, h0, r1, r2⟩ := h
  have at_ : ∀ V : World, V.heap[bm]? = w.heap[bm]? → V.ownsMap Tryz.prog 46 endR bm N D := fun V hV => by
    obtain ⟨es, clock, h1, h2⟩ := h0
    exact ⟨es, clock, by rw [hV]; exact h1, h2⟩
  obtain ⟨v0, ps0, _, hv0⟩ := h0.look_ok reqKeys Tryz.underlying134 (zeroEnd w) (endR_mk 0 0) (keyReq (wfWho hj) hs)
  obtain ⟨c, d, rfl, hc⟩ := endR_inv hv0
  have hat : D.atKey (kLit (j : Int) s) (.agg [.lit (.int .i64 0), .lit (.int .i64 0)]) = .agg [.lit (.int .i64 c), .lit (.int .i64 d)] := congrArg Prod.fst hc
  have two : ∀ (c' d' : Int), D.atKey (kLit (j : Int) s) (.agg [.lit (.int .i64 0), .lit (.int .i64 0)]) = .agg [.lit (.int .i64 c'), .lit (.int .i64 d')] → c' = c ∧ d' = d := fun c' d' e => by
    rw [hat] at e
    injection e with e
    injection e with e1 e2
    injection e2 with e2 _
    exact ⟨(lit_inj e1).symm, (lit_inj e2).symm⟩
  refine ⟨c, d, fun V hV => ?_, fun V hV => ?_, fun t ht hs' => ?_⟩
  · obtain ⟨c', d', e, _⟩ := MapM.look_ok (w := V) ⟨D, at_ V hV, r1, r2⟩ hm j hj s hs
    obtain ⟨v1, ps1, hrun1, hv1⟩ := (at_ V hV).look_ok reqKeys Tryz.underlying134 (zeroEnd V) (endR_mk 0 0) (keyReq (wfWho hj) hs)
    obtain ⟨c1, d1, rfl, hc1⟩ := endR_inv hv1
    obtain ⟨rfl, rfl⟩ := two c1 d1 (congrArg Prod.fst hc1)
    rw [hrun1] at e
    injection e with e _
    injection e with e
    rw [hrun1]
    have e2 := congrArg (fun a : Array Value => a[1]?) e
    simp only [List.getElem?_toArray, List.getElem?_cons_succ, List.getElem?_cons_zero] at e2
    injection e2 with e2
    rw [e2]
  · obtain ⟨v1, ps1, hrun1, hv1⟩ := (at_ V hV).lookup reqKeys Tryz.underlying134 (zeroEnd V) (endR_mk 0 0) (keyReq (wfWho hj) hs)
    obtain ⟨c1, d1, rfl, hc1⟩ := endR_inv hv1
    obtain ⟨rfl, rfl⟩ := two c1 d1 (congrArg Prod.fst hc1)
    exact hrun1
  · have h2 := r2 j t hj ht (.agg [.lit (.int .i64 0), .lit (.int .i64 0)])
    rw [hs', hat] at h2
    injection h2 with h2
    injection h2 with h3 h4
    injection h4 with h4 _
    exact ⟨lit_inj h3, lit_inj h4⟩

/-- A request is struck. -/
def delM (m : Nat → Option T3) (j : Nat) : Nat → Option T3 := fun i => if i = j then none else m i
set_option maxRecDepth 100000 in
theorem MapM.drop {w : World} {bm N : Nat} {m : Nat → Option T3} (h : MapM w bm N m) (hm : okM m) (j : Nat) (hj : j < 3) (t : T3) (ht : m j = some t) (ty : TypeId) :
    ∃ w', (Builtin.delete_ #[134, 46] ty #[.map (some bm), .agg #[.int .i64 (j : Int), .int .i64 t.1]]).run Tryz.prog w = .ok (.tuple #[]) w' ∧ MapM w' bm N (delM m j) ∧ w.mapTurned w' bm := by
  obtain ⟨D, h, r1, r2⟩ := h
  have okt := hm j t hj ht
  obtain ⟨w', hrun, ho, htu⟩ := h.drop reqKeys Tryz.underlying134 (keyReq (wfWho hj) (wfSeq okt)) ty
  refine ⟨w', hrun, ⟨_, ho, fun kl => ?_, fun i u hi hu zd => ?_⟩, htu⟩
  · by_cases e : kl = kLit (j : Int) t.1
    · subst e
      rw [has_del_same]
      constructor
      · intro h; cases h
      · rintro ⟨i, u, hi, hu, ek⟩
        unfold delM at hu
        split at hu
        · cases hu
        · rename_i hne
          exact absurd (kLit_who hm hj hi ht hu ek).1.symm hne
    · rw [has_del_other e, r1]
      constructor
      · rintro ⟨i, u, hi, hu, rfl⟩
        refine ⟨i, u, hi, ?_, rfl⟩
        unfold delM
        rw [if_neg (fun e2 => by subst e2; rw [hu] at ht; injection ht with ht; subst ht; exact e rfl)]
        exact hu
      · rintro ⟨i, u, hi, hu, rfl⟩
        unfold delM at hu
        split at hu
        · cases hu
        · exact ⟨i, u, hi, hu, rfl⟩
  · unfold delM at hu
    split at hu
    · cases hu
    · rename_i hne
      rw [atKey_del_other (fun e => hne (kLit_who hm hi hj hu ht e).1)]
      exact r2 i u hi hu zd
set_option maxRecDepth 100000 in
/-- A request is kept whose node has none. -/
theorem MapM.put {w : World} {bm N : Nat} {m : Nat → Option T3} (h : MapM w bm N m) (hm : okM m) (hN : N ≤ 1000) (j : Nat) (hj : j < 3) (hn : m j = none) (t : T3) (ht : (Lit.int .i64 t.1).wf = true) :
    ∃ w', (Instr.mapUpdate 134 (.map (some bm)) (.agg #[.int .i64 (j : Int), .int .i64 t.1]) (.agg #[.int .i64 t.2.1, .int .i64 t.2.2])).run Tryz.prog w = .ok () w' ∧ MapM w' bm (N + 1) (setM m j t) ∧ w.mapTurned w' bm := by
  obtain ⟨D, h, r1, r2⟩ := h
  obtain ⟨w', hrun, ho, htu⟩ := h.store reqKeys Tryz.underlying134 (by unfold maxLen; omega) (keyReq (wfWho hj) ht) (endR_mk t.2.1 t.2.2)
  have key : ∀ i u, i < 3 → m i = some u → kLit (i : Int) u.1 ≠ kLit (j : Int) t.1 := fun i u hi hu e => by
    have := kLit_inj (wfWho hi) (wfSeq (hm i u hi hu)) (wfWho hj) ht e
    have e2 : i = j := by omega
    rw [e2, hn] at hu
    cases hu
  refine ⟨w', hrun, ⟨_, ho, fun kl => ?_, fun i u hi hu zd => ?_⟩, htu⟩
  · by_cases e : kl = kLit (j : Int) t.1
    · subst e
      rw [has_put_same h.isMap (by trivial)]
      exact ⟨fun _ => ⟨j, t, hj, setM_same _ _ _, rfl⟩, fun _ => rfl⟩
    · rw [has_put_other e, r1]
      constructor
      · rintro ⟨i, u, hi, hu, rfl⟩
        refine ⟨i, u, hi, ?_, rfl⟩
        rw [setM_other _ _ (fun e2 => by rw [e2, hn] at hu; cases hu)]
        exact hu
      · rintro ⟨i, u, hi, hu, rfl⟩
        by_cases e2 : i = j
        · subst e2
          rw [setM_same] at hu
          injection hu with hu
          subst hu
          exact absurd rfl e
        · rw [setM_other _ _ e2] at hu
          exact ⟨i, u, hi, hu, rfl⟩
  · by_cases e2 : i = j
    · subst e2
      rw [setM_same] at hu
      injection hu with hu
      subst hu
      exact atKey_put_same h.isMap (by trivial) _ _
    · rw [setM_other _ _ e2] at hu
      rw [atKey_put_other (key i u hi hu)]
      exact r2 i u hi hu zd
end Go.Proofs.YtbecdihfopjlhaaGreatDoor.Own
