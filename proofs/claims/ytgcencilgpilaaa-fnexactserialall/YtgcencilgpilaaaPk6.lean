/-
  Own texts, bundled: RunMap, RunSet, Ints, OwnInts, RunNow, RunLess, RunLook, RunLoad, RunPut, RunDo, RunAll.
-/
import Derived.Test.YtgcencilgpilaaaPk4
import Derived.Test.YtgcencilgpilaaaPk3
import Derived.Maps.OwnSet
import Derived.Laws.Pointers
import Derived.Test.YtgcencilgpilaaaPk1
import Derived.BigQuiet
import Derived.Deep.QuietTactic
import Derived.Test.YtgcencilgpilaaaPk5
import Derived.StillTailTactics
import Derived.Deep.RegionLaw
import Derived.Deep.AppendLies
import Derived.Deep.RegionHeld
namespace Go.Proofs.Ytgcencilgpilaaa.Own
open Go.RowKit Go.Maps
set_option linter.unusedVariables false

theorem idxBox_map {xs ys : List P2} (h : xs.map Prod.fst = ys.map Prod.fst) (j : Nat) : idxBox xs j = idxBox ys j := by
  have e : ∀ zs : List P2, idxBox zs j = (zs.map Prod.fst).findIdx (fun x => x == (j : Int)) := by
    intro zs
    unfold idxBox
    rw [List.findIdx_map]
    rfl
  rw [e, e, h]
theorem hasBox_putP (ys : List P2) (j i : Nat) (n : Int) : hasBox (putP ys j n) i = (hasBox ys i || decide (j = i)) := by
  cases h : hasBox ys i || decide (j = i) with
  | true =>
    rw [hasBox_iff, putP_fst]
    simp only [Bool.or_eq_true, decide_eq_true_eq] at h
    rcases h with h | rfl
    · have := hasBox_iff.1 h
      split
      · exact this
      · exact List.mem_append_left _ this
    · split
      · rename_i h; exact hasBox_iff.1 h
      · simp
  | false =>
    rw [hasBox_no, putP_fst]
    simp only [Bool.or_eq_false_iff, decide_eq_false_iff_not] at h
    have := hasBox_no.1 h.1
    split
    · exact this
    · simp only [List.mem_append, List.mem_singleton, not_or]
      exact ⟨this, by omega⟩
theorem inBox_put_same (ys : List P2) (j : Nat) (n : Int) : inBox [] (putP ys j n) j = n := by
  have hh := hasBox_putP ys j j n
  simp only [decide_true, Bool.or_true] at hh
  unfold inBox
  rw [if_pos hh]
  cases h : hasBox ys j with
  | true =>
    have hl := idx_lt h
    have e : idxBox (putP ys j n) j = idxBox ys j := idxBox_map (by rw [putP_fst, if_pos h]) j
    rw [e]
    unfold putP
    rw [if_pos h, getD_set2 _ _ _ _ hl, if_pos rfl]
  | false =>
    have e : putP ys j n = ys ++ [((j : Int), n)] := by unfold putP; rw [h]; rfl
    have e2 : idxBox (ys ++ [((j : Int), n)]) j = ys.length := by
      unfold idxBox
      rw [List.findIdx_append]
      have hl : ys.findIdx (fun p => p.1 == (j : Int)) = ys.length := by
        rw [List.findIdx_eq_length]
        unfold hasBox at h
        simp only [List.any_eq_false] at h
        intro x hx
        simpa using h x hx
      rw [hl]
      simp
    rw [e, e2]
    simp [List.getD]
theorem inBox_put_other (ys : List P2) (j i : Nat) (n : Int) (hij : j ≠ i) (hi : hasBox ys i = true) : inBox [] (putP ys j n) i = inBox [] ys i := by
  have hh : hasBox (putP ys j n) i = true := by rw [hasBox_putP, hi]; rfl
  unfold inBox
  rw [if_pos hh, if_pos hi]
  have hl := idx_lt hi
  cases h : hasBox ys j with
  | true =>
    have e : idxBox (putP ys j n) i = idxBox ys i := idxBox_map (by rw [putP_fst, if_pos h]) i
    have hne : idxBox ys j ≠ idxBox ys i := fun e => by
      have h1 := idx_at h
      rw [e, idx_at hi] at h1
      omega
    rw [e]
    unfold putP
    rw [if_pos h, getD_set2 _ _ _ _ (idx_lt h), if_neg hne]
  | false =>
    have e : putP ys j n = ys ++ [((j : Int), n)] := by unfold putP; rw [h]; rfl
    have e2 : idxBox (ys ++ [((j : Int), n)]) i = idxBox ys i := by
      unfold idxBox
      rw [List.findIdx_append]
      have : ys.findIdx (fun p => p.1 == (i : Int)) < ys.length := hl
      rw [if_pos this]
    rw [e, e2]
    simp only [List.getD_eq_getElem?_getD]
    rw [List.getElem?_append_left hl]

theorem intKeys : Keyed Try.prog 3 := int_keyed Try.underlying3
theorem zeroInt (w : World) : (zeroValue 3).run Try.prog w = .ok (.int .i64 0) w := by kernel_rfl
theorem wfNat {j : Nat} (h : j < 4) : (Lit.int .i64 (j : Int)).wf = true := WalkArith.wf_i64 (by omega)
theorem wfNum {n : Int} (h : numOk n = true) : (Lit.int .i64 n).wf = true := by
  simp only [numOk, Bool.and_eq_true, decide_eq_true_eq] at h
  exact WalkArith.wf_i64 (by omega)

/-- Block bm is a map of at most N entries that holds what is put. -/
def MapP (w : World) (bm N : Nat) (ys : List P2) : Prop := ∃ D : DataW Unit, w.ownsMap Try.prog 3 (plainElem Try.prog 3) bm N D ∧
  ∀ j : Nat, j < 4 → Maps.has D (.int .i64 (j : Int)) = hasBox ys j ∧ (hasBox ys j = true → D.atKey (.int .i64 (j : Int)) (.lit (.int .i64 0)) = .lit (.int .i64 (inBox [] ys j)))

theorem MapP.lt {w : World} {bm N : Nat} {ys : List P2} (h : MapP w bm N ys) : bm < w.heap.size := by obtain ⟨D, h, _⟩ := h; exact h.lt
theorem MapP.mono {w : World} {bm N N' : Nat} {ys : List P2} (h : MapP w bm N ys) (hn : N ≤ N') : MapP w bm N' ys := by obtain ⟨D, h, r⟩ := h; exact ⟨D, h.mono hn, r⟩
theorem MapP.made (w : World) : MapP (w.alloc (.map #[] 0)) w.heap.size 0 [] := ⟨_, World.ownsMap_made _ _ _ _, fun j hj => ⟨rfl, fun h => by cases h⟩⟩
theorem MapP.block {w w' : World} {bm N : Nat} {ys : List P2} (h : MapP w bm N ys) (hb : w'.heap[bm]? = w.heap[bm]?) : MapP w' bm N ys := by
  obtain ⟨D, ⟨es, clock, h1, h2⟩, r⟩ := h
  exact ⟨D, ⟨es, clock, by rw [hb]; exact h1, h2⟩, r⟩
theorem lit_inj {a b : Int} (h : (DataW.lit (.int .i64 a) : DataW Unit) = .lit (.int .i64 b)) : a = b := by
  injection h with h
  injection h with _ h
theorem MapP.look_ok {w : World} {bm N : Nat} {ys : List P2} (h : MapP w bm N ys) (j : Nat) (hj : j < 4) :
    ∃ c : Int, (Instr.lookup 179 (.map (some bm)) (.int .i64 (j : Int)) true).run Try.prog w = .ok (.tuple #[.int .i64 c, .bool (hasBox ys j)]) w ∧ (hasBox ys j = true → c = inBox [] ys j) := by
  obtain ⟨D, h, r⟩ := h
  obtain ⟨r1, r2⟩ := r j hj
  obtain ⟨v, ps, hrun, hv⟩ := h.look_ok intKeys Try.underlying179 (zeroInt w) (plainElem_int Try.underlying3 (by decide)) (keyOf_int_mk Try.underlying3 (wfNat hj))
  obtain ⟨c, rfl, hc, _⟩ := plainElem_int_inv Try.underlying3 hv
  refine ⟨c, by rw [hrun, r1], fun hb => ?_⟩
  have h3 : D.atKey (.int .i64 (j : Int)) (.lit (.int .i64 0)) = .lit (.int .i64 c) := congrArg Prod.fst hc
  exact lit_inj ((r2 hb).symm.trans h3).symm
theorem MapP.look_ok' {w : World} {bm N : Nat} {ys : List P2} (h : MapP w bm N ys) (j : Nat) (hj : j < 4) :
    (Instr.lookup 179 (.map (some bm)) (.int .i64 (j : Int)) true).run Try.prog w = .ok (.tuple #[.int .i64 (if hasBox ys j then inBox [] ys j else 0), .bool (hasBox ys j)]) w := by
  obtain ⟨D, h, r⟩ := h
  obtain ⟨r1, r2⟩ := r j hj
  obtain ⟨v, ps, hrun, hv⟩ := h.look_ok intKeys Try.underlying179 (zeroInt w) (plainElem_int Try.underlying3 (by decide)) (keyOf_int_mk Try.underlying3 (wfNat hj))
  obtain ⟨c, rfl, hc, _⟩ := plainElem_int_inv Try.underlying3 hv
  have h3 : D.atKey (.int .i64 (j : Int)) (.lit (.int .i64 0)) = .lit (.int .i64 c) := congrArg Prod.fst hc
  have ec : c = if hasBox ys j then inBox [] ys j else 0 := by
    cases hb : hasBox ys j with
    | true => exact lit_inj (h3.symm.trans (r2 hb))
    | false =>
      rw [hb] at r1
      exact lit_inj (h3.symm.trans (atKey_of_not_has r1 _))
  rw [hrun, r1, ec]
theorem MapP.look {w : World} {bm N : Nat} {ys : List P2} (h : MapP w bm N ys) (j : Nat) (hj : j < 4) (hb : hasBox ys j = true) :
    (Instr.lookup 179 (.map (some bm)) (.int .i64 (j : Int)) false).run Try.prog w = .ok (.int .i64 (inBox [] ys j)) w := by
  obtain ⟨D, h, r⟩ := h
  obtain ⟨r1, r2⟩ := r j hj
  obtain ⟨c, hrun, hat, _⟩ := h.lookup_int intKeys Try.underlying179 Try.underlying3 (zeroInt w) (keyOf_int_mk Try.underlying3 (wfNat hj))
  rw [hrun, lit_inj ((r2 hb).symm.trans hat)]
theorem MapP.put {w : World} {bm N : Nat} {ys : List P2} (h : MapP w bm N ys) (hN : N ≤ 1000) (j : Nat) (hj : j < 4) (n : Int) (hn : numOk n = true) :
    ∃ w', (Instr.mapUpdate 179 (.map (some bm)) (.int .i64 (j : Int)) (.int .i64 n)).run Try.prog w = .ok () w' ∧ MapP w' bm (N + 1) (putP ys j n) ∧ w.mapTurned w' bm := by
  obtain ⟨D, h, r⟩ := h
  obtain ⟨w', hrun, ho, ht⟩ := h.store intKeys Try.underlying179 (by unfold maxLen; omega) (keyOf_int_mk Try.underlying3 (wfNat hj)) (plainElem_int Try.underlying3 (wfNum hn))
  refine ⟨w', hrun, ⟨_, ho, fun i hi => ?_⟩, ht⟩
  obtain ⟨r1, r2⟩ := r i hi
  by_cases e : j = i
  · subst e
    refine ⟨by rw [has_put_same h.isMap (by trivial), hasBox_putP]; simp, fun _ => ?_⟩
    rw [atKey_put_same h.isMap (by trivial), inBox_put_same]
  · have hne : (Lit.int .i64 (i : Int)) ≠ Lit.int .i64 (j : Int) := fun e' => by injection e' with _ e'; omega
    refine ⟨by rw [has_put_other hne, r1, hasBox_putP]; simp [e], fun hb => ?_⟩
    rw [hasBox_putP] at hb
    simp only [e, decide_false, Bool.or_false] at hb
    rw [atKey_put_other hne, r2 hb, inBox_put_other _ _ _ _ e hb]
theorem mapTurned.kq {B bm : Nat} {L : List Nat} {w w' : World} (h : w.mapTurned w' bm) (hB : B ≤ w.heap.size) (hL : bm ∈ L) : Turned L w w' := by
  have g := h.grown
  exact ⟨g.os, g.tape, g.output, g.size, fun k hk hn => g.block k hk (fun e => hn (by injection e with e; rw [e]; exact hL))⟩
theorem mapTurned.turned {bm : Nat} {w w' : World} (h : w.mapTurned w' bm) : Turned [bm] w w' := by
  have g := h.grown
  exact ⟨g.os, g.tape, g.output, g.size, fun k hk hn => g.block k hk (fun e => hn (by injection e with e; rw [e]; simp))⟩
end Go.Proofs.Ytgcencilgpilaaa.Own

namespace Go.Proofs.Ytgcencilgpilaaa.Own
open Go.RowKit
set_option linter.unusedVariables false
set_option linter.unusedSimpArgs false

/-- A run that ends panics with its code. -/
def thrown (c : Int) : Ending := .panicked [{ v := .iface 206 (.int .i64 c), recovered := false }]

set_option maxHeartbeats 1000000 in
theorem setYes (nb a : Nat) (n x : Int) (w : World) (ha : a < 4) (hc : w.cell? ⟨nb, 8 + a, none⟩ = some (.int .i64 x)) (hf : w.frozen? ⟨nb, 8 + a, none⟩ = false) (hn : numOk n = true) :
    Calls Try.prog 167 #[.pointer (some ⟨nb, 0, none⟩), .int .i64 a, .int .i64 n] w fun e w' => e = .returned (.tuple #[]) ∧ w' = w.setCell ⟨nb, 8 + a, none⟩ (.int .i64 n) := by
  have hai : (a : Int) < 4 := by omega
  have CN : Hid (Calls Try.prog 118 #[.int .i64 n] w fun e w' => e = .returned (.bool true) ∧ w' = w) := by
    have := isNumberC n w
    rw [hn] at this
    exact this
  clear hn
  go_enter Try.func167, Try.ntmps167
  go_wp2_with fail
  refine Calls.mono CN.out ?_
  rintro e w1 ⟨rfl, hw⟩
  rw [hw]
  clear hw
  go_wp2_with fail
  go_end0
  exact ⟨rfl, rfl⟩

set_option maxHeartbeats 1000000 in
theorem setNo (nb a : Nat) (n : Int) (w : World) (hn : numOk n = false) :
    Calls Try.prog 167 #[.pointer (some ⟨nb, 0, none⟩), .int .i64 a, .int .i64 n] w fun e w' => e = thrown 2 ∧ w' = w := by
  have CN : Hid (Calls Try.prog 118 #[.int .i64 n] w fun e w' => e = .returned (.bool false) ∧ w' = w) := by
    have := isNumberC n w
    rw [hn] at this
    exact this
  clear hn
  go_enter Try.func167, Try.ntmps167
  go_wp2_with fail
  refine Calls.mono CN.out ?_
  rintro e w1 ⟨rfl, hw⟩
  rw [hw]
  clear hw
  go_wp2_with fail
  exact ⟨rfl, rfl, rfl⟩

theorem failC (p : Option Addr) (w : World) : Calls Try.prog 170 #[.pointer p] w fun e w' => e = thrown 1 ∧ w' = w := by
  go_enter Try.func170, Try.ntmps170
  go_wp2_with fail
  exact ⟨rfl, rfl, rfl⟩
end Go.Proofs.Ytgcencilgpilaaa.Own

namespace Go.Proofs.Ytgcencilgpilaaa.Own
open Go.RowKit

set_option maxHeartbeats 1000000 in
theorem eqIntS (a1 a2 : Option Addr) (c1 c2 : Nat) (xs ys : List Int) (w : World) (h1 : SlI w a1 xs) (h2 : SlI w a2 ys) (l1 : xs.length ≤ 2 ^ 40) (l2 : ys.length ≤ 2 ^ 40) :
    Calls Try.prog 37 #[.slice a1 xs.length c1, .slice a2 ys.length c2] w fun e w' => e = .returned (.bool (xs == ys)) ∧ Below w.heap.size w w' := by
  have H1 : Hid (SlI w a1 xs) := h1
  have H2 : Hid (SlI w a2 ys) := h2
  clear h1 h2
  by_cases hl : xs.length = ys.length
  · have hl' : ((xs.length : Int) != (ys.length : Int)) = false := by simp [hl]
    have Hl : Hid (xs.length = ys.length) := hl
    clear hl
    go_enter Try.func37, Try.ntmps37
    go_wp2
    go_loopw [5] (fun i wr => ∃ k : Nat, k ≤ xs.length ∧ i = .int .i64 k ∧ Hid (xs.take k = ys.take k) ∧ Below w.heap.size w wr) (fun i _ => xs.length - (intOf i).toNat)
    case atStart => exact ⟨0, Nat.zero_le _, rfl, rfl, Below.refl _ _⟩
    case round =>
      obtain ⟨k, hk, rfl, hE, hB⟩ := hrel
      by_cases hlt : k < xs.length
      · have hlt2 : k < ys.length := by rw [← Hl.out]; exact hlt
        rcases H1.out with h | ⟨b1, o1, rfl, h1⟩
        · subst h; simp at hlt
        rcases H2.out with h | ⟨b2, o2, rfl, h2⟩
        · subst h; simp at hlt2
        have H1' : Hid (IntAt w b1 o1 xs) := h1
        have H2' : Hid (IntAt w b2 o2 ys) := h2
        clear h1 h2
        have HT : Hid ((xs.take (k + 1) = ys.take (k + 1)) ↔ (xs.getD k 0 = ys.getD k 0)) := by
          unfold Hid; rw [take_succ_eqG 0 hlt hlt2]; exact ⟨fun h => h.2, fun h => ⟨hE, h⟩⟩
        have ca := H1'.out.2 k hlt
        have cb := H2'.out.2 k hlt2
        rw [← hB.cell H1'.out.1] at ca
        rw [← hB.cell H2'.out.1] at cb
        have HB : Hid (Below w.heap.size w wr) := hB
        have HP := fun (h : xs.getD k 0 ≠ ys.getD k 0) => ne_of_getDG (k := k) (0 : Int) h
        have HP' : Hid (xs.getD k 0 ≠ ys.getD k 0 → (xs == ys) = false) := HP
        clear hB HP
        generalize xs.getD k 0 = p at ca HT HP'
        generalize ys.getD k 0 = q at cb HT HP'
        by_cases hpq : p = q
        · have N : Hid (xs.take (k + 1) = ys.take (k + 1)) := HT.out.2 hpq
          have hpq' : (p != q) = false := by simp [hpq]
          have HX : Hid (p = q) := hpq
          clear hpq
          go_wp2
          go_quiet (fail)
          go_wp2
          go_roundw
          case rel => exact ⟨k + 1, by omega, by go_num, N, below_drewN HB.out _⟩
          case measure => simp [intOf]; omega
        · have F : Hid ((xs == ys) = false) := HP'.out hpq
          have hpq' : (p != q) = true := by simp [hpq]
          clear hpq
          go_wp2
          go_quiet (fail)
          go_wp2
          go_ret
          exact ⟨ret_bool F.out.symm, below_drewN HB.out _⟩
      · go_wp2
        go_ret
        have : k = xs.length := by omega
        subst this
        refine ⟨ret_bool ?_, hB⟩
        have h := hE
        unfold Hid at h
        rw [List.take_length] at h
        have h3 := Hl.out
        rw [List.take_of_length_le (by omega)] at h
        simp [h]
  · have hl' : ((xs.length : Int) != (ys.length : Int)) = true := by simp; omega
    go_enter Try.func37, Try.ntmps37
    go_wp2
    go_ret
    refine ⟨ret_bool ?_, Below.refl _ _⟩
    symm
    simp
    intro h; exact hl (by rw [h])

set_option maxHeartbeats 1000000 in
theorem markIntS (b off n c : Nat) (k : Int) (w : World) (hn : n ≤ 2 ^ 40) (hk0 : 0 ≤ k) (hk : k ≤ 2 ^ 40) (hfr : ∀ o, w.frozen? ⟨b, o, none⟩ = false) (hcell : ∀ i, i < n → ∃ v, w.cell? ⟨b, off + i, none⟩ = some v ∧ v.oneCell' = true) (hb : b < w.heap.size) :
    Calls Try.prog 41 #[.slice (some ⟨b, off, none⟩) n c, .int .i64 k] w fun e w' => e = .returned (.int .i64 (k + n)) ∧ IntAt w' b off (marks1 k n) ∧ Only b w w' := by
  have HC : Hid (∀ i, i < n → ∃ v, w.cell? ⟨b, off + i, none⟩ = some v ∧ v.oneCell' = true) := hcell
  have HF : Hid (∀ o, w.frozen? ⟨b, o, none⟩ = false) := hfr
  clear hcell hfr
  go_enter Try.func41, Try.ntmps41
  go_wp2
  go_loopw [1, 5] (fun q i wr => ∃ j : Nat, j ≤ n ∧ i = .int .i64 j ∧ q = .int .i64 (k + j) ∧ IntAt wr b off (marks1 k j) ∧ (∀ i, j ≤ i → wr.cell? ⟨b, off + i, none⟩ = w.cell? ⟨b, off + i, none⟩) ∧ Only b w wr) (fun _ i _ => n - (intOf i).toNat)
  case atStart => exact ⟨0, Nat.zero_le _, rfl, by simp, ⟨hb, by simp [marks1]⟩, fun _ _ => rfl, Only.refl _ _⟩
  case round =>
    obtain ⟨j, hj, rfl, rfl, hat, hrest, ho⟩ := hrel
    by_cases hlt : j < n
    · obtain ⟨v1, hv1, hv1'⟩ := HC.out j (by omega)
      have c1 : wr.cell? ⟨b, off + j, none⟩ = some v1 := by rw [hrest _ (by omega)]; exact hv1
      have f1 : wr.frozen? ⟨b, off + j, none⟩ = false := by rw [ho.frozen]; exact HF.out _
      have HR : Hid (∀ i, j ≤ i → wr.cell? ⟨b, off + i, none⟩ = w.cell? ⟨b, off + i, none⟩) := hrest
      have HA : Hid (IntAt wr b off (marks1 k j)) := hat
      clear hrest hat hv1
      go_wp2
      go_roundw
      case rel =>
        refine ⟨j + 1, by omega, by go_num, ?_, ?_, ?_, ho.setCell _⟩
        · go_num
        · refine ⟨by simpa [World.setCell] using HA.out.1, fun i hi => ?_⟩
          rw [marks1_length] at hi
          rw [marks1_getD _ _ _ hi]
          by_cases e : i = j
          · subst e
            exact setCell_cell_same _ _ _ _ _ c1
          · have := HA.out.2 i (by rw [marks1_length]; omega)
            rw [marks1_getD _ _ _ (by omega)] at this
            rw [setCell_cell_other _ _ _ _ _ (by omega)]
            exact this
        · intro i hi
          rw [setCell_cell_other _ _ _ _ _ (by omega)]
          exact HR.out i (by omega)
      case measure => simp [intOf]; omega
    · go_wp2
      go_ret
      have : j = n := by omega
      subst this
      exact ⟨rfl, hat, ho⟩

set_option maxHeartbeats 1000000 in
theorem heldIntS (b off n c : Nat) (k : Int) (w : World) (hn : n ≤ 2 ^ 40) (hk0 : 0 ≤ k) (hk : k ≤ 2 ^ 40) (hat : IntAt w b off (marks1 k n)) :
    Calls Try.prog 43 #[.slice (some ⟨b, off, none⟩) n c, .int .i64 k] w fun e w' => e = .returned (.int .i64 (k + n)) ∧ w' = w := by
  have HA : Hid (IntAt w b off (marks1 k n)) := hat
  clear hat
  go_enter Try.func43, Try.ntmps43
  go_wp2
  go_loop [1, 5] (fun q i => ∃ j : Nat, j ≤ n ∧ i = .int .i64 j ∧ q = .int .i64 (k + j)) (fun _ i => n - (intOf i).toNat)
  case atStart => exact ⟨0, Nat.zero_le _, rfl, by simp⟩
  case round =>
    obtain ⟨j, hj, rfl, rfl⟩ := hrel
    by_cases hlt : j < n
    · have c1 := HA.out.2 j (by rw [marks1_length]; exact hlt)
      rw [marks1_getD _ _ _ hlt] at c1
      go_wp2
      go_round
      case rel => exact ⟨j + 1, by omega, by go_num, by go_num⟩
      case measure => simp [intOf]; omega
    · go_wp2
      go_ret
      have : j = n := by omega
      subst this
      exact ⟨rfl, rfl⟩

theorem markIntS0 (a : Option Addr) (c : Nat) (k : Int) (w : World) :
    Calls Try.prog 41 #[.slice a 0 c, .int .i64 k] w fun e w' => e = .returned (.int .i64 k) ∧ w' = w := by
  go_enter Try.func41, Try.ntmps41
  go_wp2
  go_loop [1, 5] (fun q i => i = .int .i64 0 ∧ q = .int .i64 k) (fun _ i => 0)
  case atStart => exact ⟨rfl, rfl⟩
  case round =>
    obtain ⟨rfl, rfl⟩ := hrel
    go_wp2
    go_ret
    exact ⟨rfl, rfl⟩

theorem heldIntS0 (a : Option Addr) (c : Nat) (k : Int) (w : World) :
    Calls Try.prog 43 #[.slice a 0 c, .int .i64 k] w fun e w' => e = .returned (.int .i64 k) ∧ w' = w := by
  go_enter Try.func43, Try.ntmps43
  go_wp2
  go_loop [1, 5] (fun q i => i = .int .i64 0 ∧ q = .int .i64 k) (fun _ i => 0)
  case atStart => exact ⟨rfl, rfl⟩
  case round =>
    obtain ⟨rfl, rfl⟩ := hrel
    go_wp2
    go_ret
    exact ⟨rfl, rfl⟩
end Go.Proofs.Ytgcencilgpilaaa.Own

namespace Go.Proofs.Ytgcencilgpilaaa.Own
open Go.RowKit
set_option linter.unusedVariables false

/-- v is a slice of the numbers ys, its memory from B on its own. -/
def OwnI (w : World) (B : Nat) (v : Value) (ys : List Int) : Prop := w.ownsRow B 3 1 v ys.length (ys.map (Value.int .i64))

theorem OwnI.keep {w w' : World} {B : Nat} {v : Value} {ys : List Int} (h : OwnI w B v ys) (hb : Below w.heap.size w w') : OwnI w' B v ys := by
  obtain ⟨h1, h2⟩ := h
  refine ⟨h1, ?_⟩
  rcases h2 with h2 | ⟨g, cap, cur, hv, hg, hh, r⟩
  · exact .inl h2
  · exact .inr ⟨g, cap, cur, hv, hg, by rw [hb.block g (Array.getElem?_eq_some_iff.1 hh).1]; exact hh, r⟩

theorem OwnI.only {w w' : World} {B c : Nat} {v : Value} {ys : List Int} (h : OwnI w B v ys) (ho : Only c w w') (hc : c < B) : OwnI w' B v ys := by
  obtain ⟨h1, h2⟩ := h
  refine ⟨h1, ?_⟩
  rcases h2 with h2 | ⟨g, cap, cur, hv, hg, hh, r⟩
  · exact .inl h2
  · exact .inr ⟨g, cap, cur, hv, hg, by rw [ho.block g (by omega)]; exact hh, r⟩

theorem OwnI.open {w : World} {B : Nat} {v : Value} {ys : List Int} (h : OwnI w B v ys) : ∃ a cap, v = .slice a ys.length cap ∧ SlI w a ys ∧ ys.length ≤ cap := by
  obtain ⟨h1, h2⟩ := h
  rcases h2 with ⟨hv, h0⟩ | ⟨g, cap, cur, hv, hg, hh, hmc, hml, hsz, htk⟩
  · refine ⟨none, 0, by rw [hv, h0], .inl (List.eq_nil_of_length_eq_zero h0), by omega⟩
  · refine ⟨some ⟨g, 0, none⟩, cap, hv, .inr ⟨g, 0, rfl, (Array.getElem?_eq_some_iff.1 hh).1, fun i hi => ?_⟩, hmc⟩
    rw [Nat.zero_add, cell_heap hh]
    have e : (cur.toList.take (ys.length * 1))[i]? = some (.int .i64 (ys.getD i 0)) := by
      rw [htk, List.getElem?_map]; simp [List.getD, hi]
    rw [List.getElem?_take_of_lt (by omega)] at e
    simpa using e

/-- v's numbers have been marked from 1 on. -/
def HeldI (w : World) (B : Nat) (v : Value) (n : Nat) : Prop := ∃ a cap, v = .slice a n cap ∧ (n = 0 ∨ ∃ g, a = some ⟨g, 0, none⟩ ∧ B ≤ g ∧ IntAt w g 0 (marks1 1 n))
theorem HeldI.keep {w w' : World} {B n : Nat} {v : Value} (h : HeldI w B v n) (hb : Below w.heap.size w w') : HeldI w' B v n := by
  obtain ⟨a, cap, hv, h⟩ := h
  refine ⟨a, cap, hv, ?_⟩
  rcases h with h | ⟨g, ha, hg, h⟩
  · exact .inl h
  · exact .inr ⟨g, ha, hg, h.below hb⟩

theorem eqOwn (v1 v2 : Value) (B1 B2 : Nat) (ys : List Int) (w : World) (h1 : OwnI w B1 v1 ys) (h2 : OwnI w B2 v2 ys) (hl : ys.length ≤ 2 ^ 40) :
    Calls Try.prog 37 #[v1, v2] w fun e w' => e = .returned (.bool true) ∧ Below w.heap.size w w' := by
  obtain ⟨a1, c1, rfl, s1, _⟩ := h1.open
  obtain ⟨a2, c2, rfl, s2, _⟩ := h2.open
  refine (eqIntS a1 a2 c1 c2 ys ys w s1 s2 hl hl).mono ?_
  rintro e w' ⟨rfl, hb⟩
  exact ⟨by simp, hb⟩

theorem markOwn (v : Value) (B : Nat) (ys : List Int) (w : World) (h : OwnI w B v ys) (hl : ys.length ≤ 2 ^ 40) (hB : B ≤ w.heap.size) :
    Calls Try.prog 41 #[v, .int .i64 1] w fun e w' => e = .returned (.int .i64 (1 + ys.length)) ∧ HeldI w' B v ys.length ∧ Below B w w' := by
  obtain ⟨h1, h2⟩ := h
  rcases h2 with ⟨hv, h0⟩ | ⟨g, cap, cur, hv, hg, hh, hmc, hml, hsz, htk⟩
  · subst hv
    refine (markIntS0 none 0 1 w).mono ?_
    rintro e w' ⟨rfl, rfl⟩
    exact ⟨by rw [h0]; rfl, ⟨none, 0, by rw [h0], .inl h0⟩, Below.refl _ _⟩
  · subst hv
    have hc : ∀ i, i < ys.length → ∃ v, w.cell? ⟨g, 0 + i, none⟩ = some v ∧ v.oneCell' = true := by
      intro i hi
      rw [Nat.zero_add, cell_heap hh]
      have e : (cur.toList.take (ys.length * 1))[i]? = some (.int .i64 (ys.getD i 0)) := by
        rw [htk, List.getElem?_map]; simp [List.getD, hi]
      rw [List.getElem?_take_of_lt (by omega)] at e
      exact ⟨_, by simpa using e, rfl⟩
    refine (markIntS g 0 ys.length cap 1 w hl (by decide) (by decide) (fun o => frozen_heap hh o) hc (Array.getElem?_eq_some_iff.1 hh).1).mono ?_
    rintro e w' ⟨rfl, hat, ho⟩
    exact ⟨rfl, ⟨_, _, rfl, .inr ⟨g, rfl, hg, hat⟩⟩, ho.below hg⟩

theorem heldOwn (v : Value) (B n : Nat) (w : World) (h : HeldI w B v n) (hl : n ≤ 2 ^ 40) :
    Calls Try.prog 43 #[v, .int .i64 1] w fun e w' => e = .returned (.int .i64 (1 + n)) ∧ w' = w := by
  obtain ⟨a, cap, rfl, h⟩ := h
  rcases h with rfl | ⟨g, rfl, hg, h⟩
  · refine (heldIntS0 a cap 1 w).mono ?_
    rintro e w' ⟨rfl, rfl⟩
    exact ⟨rfl, rfl⟩
  · exact heldIntS g 0 n cap 1 w hl (by decide) (by decide) h
end Go.Proofs.Ytgcencilgpilaaa.Own

namespace Go.Proofs.Ytgcencilgpilaaa.Own
open Go.RowKit
set_option linter.unusedVariables false

theorem OwnI.turned {L : List Nat} {w w' : World} {B : Nat} {v : Value} {xs : List Int} (h : OwnI w B v xs) (ht : Turned L w w') (hv : ∀ g, v.ownBlock = some g → g ∉ L) : OwnI w' B v xs := by
  obtain ⟨h1, h2⟩ := h
  refine ⟨h1, ?_⟩
  rcases h2 with h2 | ⟨g, cap, cur, e, hg, hh, r⟩
  · exact .inl h2
  · exact .inr ⟨g, cap, cur, e, hg, by rw [ht.block g (Array.getElem?_eq_some_iff.1 hh).1 (hv g (by rw [e]; rfl))]; exact hh, r⟩
theorem IntAt.setOff {w : World} {b off : Nat} {xs : List Int} (h : IntAt w b off xs) (i : Nat) (hi : i < xs.length) (n : Int) : IntAt (w.setCell ⟨b, off + i, none⟩ (.int .i64 n)) b off (xs.set i n) := by
  refine ⟨by simpa [World.setCell] using h.1, fun j hj => ?_⟩
  rw [List.length_set] at hj
  have hx := h.2 j hj
  by_cases e : i = j
  · subst e
    rw [setCell_cell_same _ _ _ _ _ hx]
    simp [List.getD, hi]
  · rw [setCell_cell_other _ _ _ _ _ (by omega), hx]
    simp [List.getD, e]
theorem IntAt.far {w : World} {b off o : Nat} {xs : List Int} (h : IntAt w b off xs) (ho : o < off ∨ off + xs.length ≤ o) (v : Value) : IntAt (w.setCell ⟨b, o, none⟩ v) b off xs :=
  ⟨by simpa [World.setCell] using h.1, fun j hj => by rw [setCell_cell_other _ _ _ _ _ (by omega)]; exact h.2 j hj⟩
theorem BoxAt.far {w : World} {b off o : Nat} {xs : List P2} (h : BoxAt w b off xs) (ho : o < off ∨ off + xs.length * 2 ≤ o) (v : Value) : BoxAt (w.setCell ⟨b, o, none⟩ v) b off xs :=
  ⟨by simpa [World.setCell] using h.1, fun j hj => by rw [setCell_cell_other _ _ _ _ _ (by omega), setCell_cell_other _ _ _ _ _ (by omega)]; exact h.2 j hj⟩

/-- A run of impl's under way: its block nb, its map bm, the instruction that is next. -/
structure Now (B nb bm : Nat) (w : World) (bs : List P2) (k N : Nat) (s : RunSt) (rv ov : Value) : Prop where
  boxes : BoxAt w nb 0 bs
  len : bs.length = 4
  regs : IntAt w nb 8 s.regs
  four : s.regs.length = 4
  next : w.cell? ⟨nb, 12, none⟩ = some (.int .i64 (k : Int))
  looked : ∀ i, i < 4 → w.cell? ⟨nb, 13 + i, none⟩ = some (.bool (hasBox s.reads i))
  rdc : w.cell? ⟨nb, 17, none⟩ = some rv
  mpc : w.cell? ⟨nb, 18, none⟩ = some (.map (some bm))
  odc : w.cell? ⟨nb, 19, none⟩ = some ov
  free : ∀ o, w.frozen? ⟨nb, o, none⟩ = false
  reads : OwnP 40 w B rv s.reads
  order : OwnI w B ov (s.puts.map Prod.fst)
  map : MapP w bm N s.puts
  apart : rv.ownBlock = none ∨ rv.ownBlock ≠ ov.ownBlock
  lt : nb < B ∧ bm < B ∧ nb ≠ bm

def NowE (B nb bm : Nat) (w : World) (bs : List P2) (k N : Nat) (s : RunSt) : Prop := ∃ rv ov, Now B nb bm w bs k N s rv ov
/-- What is left of a run that has ended: what it looked into. -/
def Left (B nb : Nat) (w : World) (xs : List P2) : Prop := ∃ rv, w.cell? ⟨nb, 17, none⟩ = some rv ∧ OwnP 40 w B rv xs ∧ nb < B ∧ nb < w.heap.size

theorem Now.turned {L : List Nat} {B nb bm : Nat} {w w' : World} {bs : List P2} {k N : Nat} {s : RunSt} {rv ov : Value} (h : Now B nb bm w bs k N s rv ov) (ht : Turned L w w') (h1 : nb ∉ L) (h2 : bm ∉ L) (h3 : ∀ g, rv.ownBlock = some g → g ∉ L) (h4 : ∀ g, ov.ownBlock = some g → g ∉ L) : Now B nb bm w' bs k N s rv ov := by
  have e : ∀ o, w'.cell? ⟨nb, o, none⟩ = w.cell? ⟨nb, o, none⟩ := fun o => World.cell?_of_block (w := w) (a := ⟨nb, o, none⟩) (ht.block nb h.boxes.1 h1)
  exact ⟨h.boxes.turned ht h1, h.len, h.regs.turned ht h1, h.four, by rw [e]; exact h.next, fun i hi => by rw [e]; exact h.looked i hi, by rw [e]; exact h.rdc, by rw [e]; exact h.mpc, by rw [e]; exact h.odc,
    fun o => by rw [World.frozen?_of_block (w := w) (a := ⟨nb, o, none⟩) (ht.block nb h.boxes.1 h1)]; exact h.free o, h.reads.turned ht h3, h.order.turned ht h4, h.map.block (ht.block bm h.map.lt h2), h.apart, h.lt⟩
theorem Now.below {B nb bm : Nat} {w w' : World} {bs : List P2} {k N : Nat} {s : RunSt} {rv ov : Value} (h : Now B nb bm w bs k N s rv ov) (ht : Below w.heap.size w w') : Now B nb bm w' bs k N s rv ov :=
  h.turned (L := []) (Turned.ofBelow ht) (by simp) (by simp) (by simp) (by simp)
theorem Now.mono {B nb bm : Nat} {w : World} {bs : List P2} {k N N' : Nat} {s : RunSt} {rv ov : Value} (h : Now B nb bm w bs k N s rv ov) (hn : N ≤ N') : Now B nb bm w bs k N' s rv ov :=
  ⟨h.boxes, h.len, h.regs, h.four, h.next, h.looked, h.rdc, h.mpc, h.odc, h.free, h.reads, h.order, h.map.mono hn, h.apart, h.lt⟩
theorem Now.own {B nb bm : Nat} {w : World} {bs : List P2} {k N : Nat} {s : RunSt} {rv ov : Value} (h : Now B nb bm w bs k N s rv ov) : (∀ g, rv.ownBlock = some g → B ≤ g ∧ g < w.heap.size) ∧ (∀ g, ov.ownBlock = some g → B ≤ g ∧ g < w.heap.size) :=
  ⟨fun g e => World.ownsRow.lt h.reads g e, fun g e => World.ownsRow.lt h.order g e⟩
theorem Now.reg {B nb bm : Nat} {w : World} {bs : List P2} {k N : Nat} {s : RunSt} {rv ov : Value} (h : Now B nb bm w bs k N s rv ov) (a : Nat) (ha : a < 4) (n : Int) : Now B nb bm (w.setCell ⟨nb, 8 + a, none⟩ (.int .i64 n)) bs k N (setReg s a n) rv ov := by
  have e : Turned [nb] w (w.setCell ⟨nb, 8 + a, none⟩ (.int .i64 n)) := (Turned.refl _ _).set (by simp) _
  obtain ⟨o1, o2⟩ := h.own
  obtain ⟨l1, l2, l3⟩ := h.lt
  refine ⟨h.boxes.far (.inr (by rw [h.len]; omega)) _, h.len, h.regs.setOff a (by rw [h.four]; exact ha) n, by simp [setReg, h.four], ?_, fun i hi => ?_, ?_, ?_, ?_, fun o => by simpa using h.free o, h.reads.turned e (fun g eg => ?_), h.order.turned e (fun g eg => ?_), h.map.block (e.block bm h.map.lt (by simp; omega)), h.apart, h.lt⟩
  · rw [setCell_cell_other _ _ _ _ _ (by omega)]; exact h.next
  · rw [setCell_cell_other _ _ _ _ _ (by omega)]; exact h.looked i hi
  · rw [setCell_cell_other _ _ _ _ _ (by omega)]; exact h.rdc
  · rw [setCell_cell_other _ _ _ _ _ (by omega)]; exact h.mpc
  · rw [setCell_cell_other _ _ _ _ _ (by omega)]; exact h.odc
  · have := o1 g eg; simp; omega
  · have := o2 g eg; simp; omega
theorem Now.step {B nb bm : Nat} {w : World} {bs : List P2} {k N : Nat} {s : RunSt} {rv ov : Value} (h : Now B nb bm w bs k N s rv ov) (k' : Nat) : Now B nb bm (w.setCell ⟨nb, 12, none⟩ (.int .i64 (k' : Int))) bs k' N s rv ov := by
  have e : Turned [nb] w (w.setCell ⟨nb, 12, none⟩ (.int .i64 (k' : Int))) := (Turned.refl _ _).set (by simp) _
  obtain ⟨o1, o2⟩ := h.own
  obtain ⟨l1, l2, l3⟩ := h.lt
  refine ⟨h.boxes.far (.inr (by rw [h.len]; omega)) _, h.len, h.regs.far (.inr (by rw [h.four]; omega)) _, h.four, setCell_cell_same _ _ _ _ _ h.next, fun i hi => ?_, ?_, ?_, ?_, fun o => by simpa using h.free o, h.reads.turned e (fun g eg => ?_), h.order.turned e (fun g eg => ?_), h.map.block (e.block bm h.map.lt (by simp; omega)), h.apart, h.lt⟩
  · rw [setCell_cell_other _ _ _ _ _ (by omega)]; exact h.looked i hi
  · rw [setCell_cell_other _ _ _ _ _ (by omega)]; exact h.rdc
  · rw [setCell_cell_other _ _ _ _ _ (by omega)]; exact h.mpc
  · rw [setCell_cell_other _ _ _ _ _ (by omega)]; exact h.odc
  · have := o1 g eg; simp; omega
  · have := o2 g eg; simp; omega
theorem Now.left {B nb bm : Nat} {w : World} {bs : List P2} {k N : Nat} {s : RunSt} {rv ov : Value} (h : Now B nb bm w bs k N s rv ov) : Left B nb w s.reads := ⟨rv, h.rdc, h.reads, h.lt.1, h.boxes.1⟩

/-- What an instruction leaves. -/
def DoPost (B nb bm : Nat) (bs : List P2) (k N : Nat) (s : RunSt) (p : Q4) (w : World) (e : Ending) (w' : World) : Prop :=
  Kq B [nb, bm] w w' ∧
    if p.1 = 6 then e = .returned (.tuple #[]) ∧ NowE B nb bm w' bs (if s.regs.getD p.2.1.toNat 0 < s.regs.getD p.2.2.1.toNat 0 then k + p.2.2.2.toNat else k) (N + 1) s
    else if (stepR bs s p).code = 0 then e = .returned (.tuple #[]) ∧ NowE B nb bm w' bs k (N + 1) (stepR bs s p)
    else e = thrown (stepR bs s p).code ∧ Left B nb w' (stepR bs s p).reads
end Go.Proofs.Ytgcencilgpilaaa.Own

namespace Go.Proofs.Ytgcencilgpilaaa.Own
open Go.RowKit
set_option linter.unusedVariables false
set_option linter.unusedSimpArgs false

set_option maxRecDepth 100000 in
set_option maxHeartbeats 2000000 in
theorem lessC (B nb bm : Nat) (bs : List P2) (k N : Nat) (s : RunSt) (rv ov : Value) (na nb' n : Nat) (w : World) (h : Now B nb bm w bs k N s rv ov) (hB : B ≤ w.heap.size) (ha : na < 4) (hb : nb' < 4) (hn : n ≤ 10) (hk : k ≤ 100) :
    Calls Try.prog 169 #[.pointer (some ⟨nb, 0, none⟩), .agg #[.int .i64 6, .int .i64 na, .int .i64 nb', .int .i64 n]] w fun e w' => e = .returned (.tuple #[]) ∧ Kq B [nb, bm] w w' ∧ NowE B nb bm w' bs (if s.regs.getD na 0 < s.regs.getD nb' 0 then k + n else k) N s := by
  obtain ⟨X, hX⟩ : ∃ X, X = w.alloc (.cells #[.int .i64 6, .int .i64 na, .int .i64 nb', .int .i64 n] 156) := ⟨_, rfl⟩
  have gX : X.heap[w.heap.size]? = some (.cells #[.int .i64 6, .int .i64 na, .int .i64 nb', .int .i64 n] 156 (0, 0)) := by rw [hX]; exact heap_new _ _
  have BX : Hid (Below w.heap.size w X) := by show Below _ _ _; rw [hX]; exact below_new _ _
  have HX : Hid (X = _) := hX
  have HN : Hid (Now B nb bm X bs k N s rv ov) := h.below BX.out
  have v1 : X.cell? ⟨w.heap.size, 1, none⟩ = some (.int .i64 na) := (cell_heap gX 1).trans rfl
  have v2 : X.cell? ⟨w.heap.size, 2, none⟩ = some (.int .i64 nb') := (cell_heap gX 2).trans rfl
  have v3 : X.cell? ⟨w.heap.size, 3, none⟩ = some (.int .i64 n) := (cell_heap gX 3).trans rfl
  have nx := HN.out.next
  have fr := HN.out.free 12
  have rga := HN.out.regs.2 na (by rw [HN.out.four]; exact ha)
  have rgb := HN.out.regs.2 nb' (by rw [HN.out.four]; exact hb)
  have hlt := h.lt
  have hai : (na : Int) < 4 := by omega
  have hbi : (nb' : Int) < 4 := by omega
  have E : Hid (∀ x y : Int, s.regs.getD na 0 = x → s.regs.getD nb' 0 = y → (if s.regs.getD na 0 < s.regs.getD nb' 0 then k + n else k) = (if x < y then k + n else k)) := fun x y h1 h2 => by rw [h1, h2]
  obtain ⟨x, hx⟩ : ∃ x, s.regs.getD na 0 = x := ⟨_, rfl⟩
  obtain ⟨y, hy⟩ : ∃ y, s.regs.getD nb' 0 = y := ⟨_, rfl⟩
  have E2 := E.out x y hx hy
  rw [hx] at rga
  rw [hy] at rgb
  obtain ⟨k', hk'⟩ : ∃ k' : Nat, k' = (if s.regs.getD na 0 < s.regs.getD nb' 0 then k + n else k) := ⟨_, rfl⟩
  rw [← hk']
  have E3 : Hid (k' = (if x < y then k + n else k)) := hk'.trans E2
  have wr : IntKind.i64.wrap ((k : Int) + (n : Int)) = (k : Int) + (n : Int) := by rw [IntKind.wrap_i64]; omega
  have nn : ¬ nb = w.heap.size := by omega
  have nn' : ¬ w.heap.size = nb := by omega
  have KX : Hid (Kq B [nb, bm] w X) := (Turned.ofBelow (L := []) BX.out).kq hB (by simp)
  have hBX : B ≤ X.heap.size := by have := BX.out.size; omega
  clear hX gX h hx hy E E2 hk'
  go_enter Try.func169, Try.ntmps169
  go_upto_region 1 with fail
  rw [← HX.out]
  go_quiet (fail)
  by_cases hl : x < y
  · go_upto_region 2 with fail
    refine region_still_tail 9 (by kernel_rfl) (by kernel_rfl) ?_
    simp only [List.take_succ_cons, List.take_zero, List.drop_succ_cons, List.drop_zero]
    iterate 9 still_step
    refine wpStill_nil ?_
    go_wp2
    go_end0
    refine ⟨rfl, KX.out.trans (Turned.kq (L' := [nb]) (((Turned.refl _ _).drewN _).drew.set (by simp) _) hBX (by simp)), rv, ov, ?_⟩
    rw [E3.out, if_pos hl]
    exact (HN.out.turned (w' := X.drewN (nq + 1)) (L := []) ((Turned.refl _ _).drewN _) (by simp) (by simp) (by simp) (by simp)).step (k + n)
  · go_wp2
    go_end0
    refine ⟨rfl, KX.out.trans (Turned.kq (L' := []) ((Turned.refl _ _).drewN _) hBX (by simp)), rv, ov, ?_⟩
    rw [E3.out, if_neg (by omega)]
    exact HN.out.turned (L := []) ((Turned.refl _ _).drewN _) (by simp) (by simp) (by simp) (by simp)

/-- What setting a register leaves. -/
def SetPost (B nb bm : Nat) (bs : List P2) (k N : Nat) (s : RunSt) (na : Nat) (v : Int) (w : World) (e : Ending) (w' : World) : Prop :=
  Kq B [nb, bm] w w' ∧ ((numOk v = true ∧ e = .returned (.tuple #[]) ∧ NowE B nb bm w' bs k N (setReg s na v)) ∨ (numOk v = false ∧ e = thrown 2 ∧ NowE B nb bm w' bs k N s))

theorem nowSet (B nb bm : Nat) (bs : List P2) (k N : Nat) (s : RunSt) (rv ov : Value) (na : Nat) (v : Int) (w : World) (h : Now B nb bm w bs k N s rv ov) (hB : B ≤ w.heap.size) (ha : na < 4) :
    Calls Try.prog 167 #[.pointer (some ⟨nb, 0, none⟩), .int .i64 na, .int .i64 v] w fun e w' => SetPost B nb bm bs k N s na v w e w' ∧ Turned [nb] w w' := by
  cases hv : numOk v with
  | true =>
    refine (setYes nb na v _ w ha (h.regs.2 na (by rw [h.four]; exact ha)) (h.free _) hv).mono ?_
    rintro e w' ⟨rfl, rfl⟩
    exact ⟨⟨Turned.kq (L' := [nb]) ((Turned.refl _ _).set (by simp) _) hB (by simp), .inl ⟨hv, rfl, rv, ov, h.reg na ha v⟩⟩, (Turned.refl _ _).set (by simp) _⟩
  | false =>
    refine (setNo nb na v w hv).mono ?_
    rintro e w' ⟨rfl, rfl⟩
    exact ⟨⟨Kq.refl _ _ _, .inr ⟨hv, rfl, rv, ov, h⟩⟩, Turned.refl _ _⟩

set_option maxRecDepth 100000 in
set_option maxHeartbeats 2000000 in
theorem addC (B nb bm : Nat) (bs : List P2) (k N : Nat) (s : RunSt) (rv ov : Value) (kd pn sg : Int) (na nb' : Nat) (w : World) (h : Now B nb bm w bs k N s rv ov) (hB : B ≤ w.heap.size) (ha : na < 4) (hb : nb' < 4) (hsg : sg = 1 ∨ sg = -1) (hnum : ∀ i, i < 4 → numOk (s.regs.getD i 0) = true) :
    Calls Try.prog 168 #[.pointer (some ⟨nb, 0, none⟩), .agg #[.int .i64 kd, .int .i64 na, .int .i64 nb', .int .i64 pn], .int .i64 sg] w fun e w' => SetPost B nb bm bs k N s na (s.regs.getD na 0 + sg * s.regs.getD nb' 0) w e w' := by
  obtain ⟨X, hX⟩ : ∃ X, X = w.alloc (.cells #[.int .i64 kd, .int .i64 na, .int .i64 nb', .int .i64 pn] 156) := ⟨_, rfl⟩
  have gX : X.heap[w.heap.size]? = some (.cells #[.int .i64 kd, .int .i64 na, .int .i64 nb', .int .i64 pn] 156 (0, 0)) := by rw [hX]; exact heap_new _ _
  have BX : Hid (Below w.heap.size w X) := by show Below _ _ _; rw [hX]; exact below_new _ _
  have HX : Hid (X = _) := hX
  have HN : Hid (Now B nb bm X bs k N s rv ov) := h.below BX.out
  have v1 : X.cell? ⟨w.heap.size, 1, none⟩ = some (.int .i64 na) := (cell_heap gX 1).trans rfl
  have v2 : X.cell? ⟨w.heap.size, 2, none⟩ = some (.int .i64 nb') := (cell_heap gX 2).trans rfl
  have rga := HN.out.regs.2 na (by rw [HN.out.four]; exact ha)
  have rgb := HN.out.regs.2 nb' (by rw [HN.out.four]; exact hb)
  have na1 := hnum na ha
  have nb1 := hnum nb' hb
  have hai : (na : Int) < 4 := by omega
  have hbi : (nb' : Int) < 4 := by omega
  have hBX : B ≤ X.heap.size := by have := BX.out.size; omega
  have KX : Hid (Kq B [nb, bm] w X) := (Turned.ofBelow (L := []) BX.out).kq hB (by simp)
  generalize s.regs.getD na 0 = x at rga na1 ⊢
  generalize s.regs.getD nb' 0 = y at rgb nb1 ⊢
  simp only [numOk, Bool.and_eq_true, decide_eq_true_eq] at na1 nb1
  obtain ⟨a0, a1⟩ := na1
  obtain ⟨b0, b1⟩ := nb1
  have hsy : -1000000 ≤ sg * y ∧ sg * y ≤ 1000000 := by rcases hsg with rfl | rfl <;> omega
  have wm : IntKind.i64.wrap (sg * y) = sg * y := by rw [IntKind.wrap_i64]; omega
  have wr : IntKind.i64.wrap (x + sg * y) = x + sg * y := by rw [IntKind.wrap_i64]; omega
  have SET : Hid (∀ u, Turned [] X u → Calls Try.prog 167 #[.pointer (some ⟨nb, 0, none⟩), .int .i64 na, .int .i64 (x + sg * y)] u fun e w' => SetPost B nb bm bs k N s na (x + sg * y) u e w') := fun u hu =>
    (nowSet B nb bm bs k N s rv ov na _ u (HN.out.turned hu (by simp) (by simp) (by simp) (by simp)) (Nat.le_trans hBX hu.size) ha).mono (fun _ _ h => h.1)
  clear hX gX h hnum hsy hsg
  go_enter Try.func168, Try.ntmps168
  go_upto_region 1 with fail
  rw [← HX.out]
  refine region_still_tail 20 (by kernel_rfl) (by kernel_rfl) ?_
  simp only [List.take_succ_cons, List.take_zero, List.drop_succ_cons, List.drop_zero]
  iterate 20 still_step
  refine wpStill_nil ?_
  go_wp2_with fail
  refine Calls.mono (SET.out _ (Turned.refl _ _).drew) ?_
  rintro e w1 ⟨K1, ⟨hv, rfl, hN⟩ | ⟨hv, rfl, hN⟩⟩
  · have F : Hid (SetPost B nb bm bs k N s na (x + sg * y) w (.returned (.tuple #[])) w1) := ⟨KX.out.trans ⟨K1.os, K1.tape, K1.output, K1.size, K1.block⟩, .inl ⟨hv, rfl, hN⟩⟩
    clear K1 hv hN
    go_wp2_with fail
    go_end0
    exact F.out
  · have F : Hid (SetPost B nb bm bs k N s na (x + sg * y) w (thrown 2) w1) := ⟨KX.out.trans ⟨K1.os, K1.tape, K1.output, K1.size, K1.block⟩, .inr ⟨hv, rfl, hN⟩⟩
    clear K1 hv hN
    exact ⟨rfl, F.out⟩
end Go.Proofs.Ytgcencilgpilaaa.Own

namespace Go.Proofs.Ytgcencilgpilaaa.Own
open Go.RowKit
set_option linter.unusedVariables false
set_option linter.unusedSimpArgs false

theorem inBox_puts {ys : List P2} {j : Nat} (h : hasBox ys j = true) (bs : List P2) : inBox bs ys j = inBox [] ys j := by unfold inBox; rw [if_pos h, if_pos h]
theorem hasBox_snoc (xs : List P2) (j i : Nat) (n : Int) : hasBox (xs ++ [((j : Int), n)]) i = (hasBox xs i || decide (j = i)) := by
  unfold hasBox
  rw [List.any_append]
  simp only [List.any_cons, List.any_nil, Bool.or_false]
  congr 1
  rw [Bool.eq_iff_iff]; simp only [beq_iff_eq, decide_eq_true_eq]; omega

/-- A box has been looked into. -/
theorem Now.look {B nb bm : Nat} {w w1 : World} {bs : List P2} {k N : Nat} {s : RunSt} {rv ov rv' : Value} {j : Nat} {ver : Int} (h : Now B nb bm w bs k N s rv ov) (hj : j < 4)
    (hg : (w.setCell ⟨nb, 13 + j, none⟩ (.bool true)).grownBy w1 rv.ownBlock) (ho : OwnP 40 w1 B rv' (s.reads ++ [((j : Int), ver)])) (hnew : ∀ g, rv'.ownBlock = some g → rv.ownBlock = some g ∨ w.heap.size ≤ g) (hB : B ≤ w.heap.size) :
    Now B nb bm (w1.setCell ⟨nb, 17, none⟩ rv') bs k N { s with reads := s.reads ++ [((j : Int), ver)] } rv' ov ∧ Kq B [nb, bm] w (w1.setCell ⟨nb, 17, none⟩ rv') ∧ Turned (nb :: rv.ownBlock.toList) w (w1.setCell ⟨nb, 17, none⟩ rv') := by
  obtain ⟨o1, o2⟩ := h.own
  obtain ⟨l1, l2, l3⟩ := h.lt
  have hs : (w.setCell ⟨nb, 13 + j, none⟩ (.bool true)).heap.size = w.heap.size := by simp [World.setCell]
  have nrv : rv.ownBlock ≠ some nb := fun e => by have := o1 nb e; omega
  have bn : w1.heap[nb]? = (w.setCell ⟨nb, 13 + j, none⟩ (.bool true)).heap[nb]? := hg.block nb (by rw [hs]; exact h.boxes.1) (fun e => nrv e.symm)
  have e1 : ∀ o, w1.cell? ⟨nb, o, none⟩ = (w.setCell ⟨nb, 13 + j, none⟩ (.bool true)).cell? ⟨nb, o, none⟩ := fun o => World.cell?_of_block (w := w.setCell ⟨nb, 13 + j, none⟩ (.bool true)) (a := ⟨nb, o, none⟩) bn
  have ek : ∀ o, o ≠ 13 + j → o ≠ 17 → (w1.setCell ⟨nb, 17, none⟩ rv').cell? ⟨nb, o, none⟩ = w.cell? ⟨nb, o, none⟩ := fun o ho h17 => by
    rw [setCell_cell_other _ _ _ _ _ (Ne.symm h17), e1, setCell_cell_other _ _ _ _ _ (Ne.symm ho)]
  have t0 : Turned [nb] w (w.setCell ⟨nb, 13 + j, none⟩ (.bool true)) := (Turned.refl _ _).set (by simp) _
  have t1 : Turned rv.ownBlock.toList (w.setCell ⟨nb, 13 + j, none⟩ (.bool true)) w1 := Turned.ofGrown hg (fun g e => by simp [e])
  have t2 : Turned [nb] w1 (w1.setCell ⟨nb, 17, none⟩ rv') := (Turned.refl _ _).set (by simp) _
  have hrv' : ∀ g, rv'.ownBlock = some g → B ≤ g := fun g e => by
    rcases hnew g e with h' | h'
    · exact (o1 g h').1
    · omega
  have tw : Turned (nb :: rv.ownBlock.toList) w (w1.setCell ⟨nb, 17, none⟩ rv') := ((t0.mono (by simp)).trans (t1.mono (by simp; intro x hx; exact .inr hx))).trans (t2.mono (by simp))
  have hs1 : w.heap.size ≤ w1.heap.size := by have := hg.size; rw [hs] at this; exact this
  refine ⟨⟨⟨by rw [show (w1.setCell ⟨nb, 17, none⟩ rv').heap.size = w1.heap.size by simp [World.setCell]]; exact Nat.lt_of_lt_of_le h.boxes.1 hs1, fun i hi => ?_⟩, h.len, ⟨by rw [show (w1.setCell ⟨nb, 17, none⟩ rv').heap.size = w1.heap.size by simp [World.setCell]]; exact Nat.lt_of_lt_of_le h.boxes.1 hs1, fun i hi => ?_⟩, h.four, ?_, fun i hi => ?_, ?_, ?_, ?_, fun o => ?_, ?_, ?_, ?_, ?_, h.lt⟩, ?_, tw⟩
  · rw [h.len] at hi
    rw [ek _ (by omega) (by omega), ek _ (by omega) (by omega)]; exact h.boxes.2 i (by rw [h.len]; exact hi)
  · have hi' : i < s.regs.length := hi
    have := h.four
    rw [ek _ (by omega) (by omega)]; exact h.regs.2 i hi'
  · rw [ek _ (by omega) (by omega)]; exact h.next
  · rw [hasBox_snoc]
    rw [setCell_cell_other _ _ _ _ _ (by omega), e1]
    by_cases e : j = i
    · subst e
      rw [setCell_cell_same _ _ _ _ _ (h.looked j hj)]; simp
    · rw [setCell_cell_other _ _ _ _ _ (by omega), h.looked i hi]; simp [e]
  · have c17 : w1.cell? ⟨nb, 17, none⟩ = some rv := by rw [e1, setCell_cell_other _ _ _ _ _ (by omega)]; exact h.rdc
    exact setCell_cell_same _ _ _ _ _ c17
  · rw [ek _ (by omega) (by omega)]; exact h.mpc
  · rw [ek _ (by omega) (by omega)]; exact h.odc
  · have f1 : w1.frozen? ⟨nb, o, none⟩ = (w.setCell ⟨nb, 13 + j, none⟩ (.bool true)).frozen? ⟨nb, o, none⟩ := World.frozen?_of_block (w := w.setCell ⟨nb, 13 + j, none⟩ (.bool true)) (a := ⟨nb, o, none⟩) bn
    have f2 : (w1.setCell ⟨nb, 17, none⟩ rv').frozen? ⟨nb, o, none⟩ = w1.frozen? ⟨nb, o, none⟩ := by simp
    rw [f2, f1]
    simpa using h.free o
  · exact ho.turned t2 (fun g e => by have := hrv' g e; simp; omega)
  · refine h.order.turned tw (fun g e => ?_)
    have := o2 g e
    simp only [List.mem_cons, Option.mem_toList, not_or]
    refine ⟨by omega, fun e' => ?_⟩
    rcases h.apart with h' | h'
    · rw [h'] at e'; cases e'
    · exact h' (by rw [e, e'])
  · refine h.map.block (tw.block bm h.map.lt ?_)
    simp only [List.mem_cons, Option.mem_toList, not_or]
    exact ⟨Ne.symm l3, fun e' => by have := o1 _ e'; omega⟩
  · cases hg' : rv'.ownBlock with
    | none => exact .inl rfl
    | some g =>
      refine .inr fun e => ?_
      rcases hnew g hg' with h' | h'
      · rcases h.apart with h'' | h''
        · rw [h''] at h'; cases h'
        · exact h'' (by rw [h', e])
      · have := o2 g e.symm; omega
  · exact tw.kq hB (fun x hx => by
      simp only [List.mem_cons, Option.mem_toList] at hx
      rcases hx with rfl | hx
      · exact .inl (by simp)
      · exact .inr (o1 x hx).1)

set_option maxRecDepth 100000 in
set_option maxHeartbeats 4000000 in
theorem lookC (B nb bm : Nat) (bs : List P2) (k N : Nat) (s : RunSt) (rv ov : Value) (j : Nat) (w : World) (h : Now B nb bm w bs k N s rv ov) (hB : B ≤ w.heap.size) (hj : j < 4) (lx : s.reads.length ≤ 1000) :
    Calls Try.prog 172 #[.pointer (some ⟨nb, 0, none⟩), .int .i64 j] w fun e w' => e = .returned (.int .i64 (inBox bs s.puts j)) ∧ (Kq B [nb, bm] w w' ∧ Turned (nb :: rv.ownBlock.toList) w w') ∧ NowE B nb bm w' bs k N { s with reads := lookR bs s.reads s.puts j } := by
  have HN : Hid (Now B nb bm w bs k N s rv ov) := h
  clear h
  have mpc := HN.out.mpc
  obtain ⟨c, hlk, hcv⟩ := HN.out.map.look_ok j hj
  have hji : (j : Int) < 4 := by omega
  cases hy : hasBox s.puts j with
  | true =>
    rw [hy] at hlk
    have ec : c = inBox bs s.puts j := (hcv hy).trans (inBox_puts hy bs).symm
    have EL : Hid (lookR bs s.reads s.puts j = s.reads) := by show _ = _; simp [lookR, hy]
    rw [← ec]
    clear ec hcv hy
    go_enter Try.func172, Try.ntmps172
    go_wp2_with fail
    go_ret
    exact ⟨rfl, ⟨Kq.refl _ _ _, Turned.refl _ _⟩, rv, ov, by rw [EL.out]; exact HN.out⟩
  | false =>
    rw [hy] at hlk
    have EI : Hid (inBox bs s.puts j = (bs.getD j (0, 0)).2) := by show _ = _; simp [inBox, hy]
    have cv := (HN.out.boxes.2 j (by rw [HN.out.len]; exact hj)).1
    have cl := (HN.out.boxes.2 j (by rw [HN.out.len]; exact hj)).2
    rw [← EI.out] at cl
    simp only [Nat.zero_add] at cv cl
    obtain ⟨ver, hver⟩ : ∃ z, z = (bs.getD j (0, 0)).1 := ⟨_, rfl⟩
    rw [← hver] at cv
    have HV : Hid (ver = (bs.getD j (0, 0)).1) := hver
    clear hver hcv
    cases hx : hasBox s.reads j with
    | true =>
      have EL : Hid (lookR bs s.reads s.puts j = s.reads) := by show _ = _; simp [lookR, hy, hx]
      have FT : Hid (Calls Try.prog 119 #[.pointer (some ⟨nb, 13, none⟩), .int .i64 j] w fun e w' => e = .returned (.bool false) ∧ w' = w) := firstTwice nb 13 j w hj (by rw [HN.out.looked j hj, hx])
      clear hx hy
      go_enter Try.func172, Try.ntmps172
      go_wp2_with fail
      refine Calls.mono FT.out ?_
      rintro e w1 ⟨rfl, hw⟩
      rw [hw]
      clear hw
      go_wp2_with fail
      go_ret
      exact ⟨rfl, ⟨Kq.refl _ _ _, Turned.refl _ _⟩, rv, ov, by rw [EL.out]; exact HN.out⟩
    | false =>
      have EL : Hid (lookR bs s.reads s.puts j = s.reads ++ [((j : Int), ver)]) := by show _ = _; rw [HV.out]; simp [lookR, hy, hx]
      have FY : Hid (Calls Try.prog 119 #[.pointer (some ⟨nb, 13, none⟩), .int .i64 j] w fun e w' => e = .returned (.bool true) ∧ w' = w.setCell ⟨nb, 13 + j, none⟩ (.bool true)) := firstYes nb 13 j w hj (by rw [HN.out.looked j hj, hx]) (HN.out.free _)
      clear hx hy
      obtain ⟨ar, cr, hrv, _, _, _, _⟩ := HN.out.reads.open
      obtain ⟨W, hW⟩ : ∃ W, W = w.setCell ⟨nb, 13 + j, none⟩ (.bool true) := ⟨_, rfl⟩
      have hsW : W.heap.size = w.heap.size := by rw [hW]; simp [World.setCell]
      have TW : Turned [nb] w W := by rw [hW]; exact (Turned.refl _ _).set (by simp) _
      have q17 : W.cell? ⟨nb, 17, none⟩ = some (.slice ar s.reads.length cr) := by rw [hW, setCell_cell_other _ _ _ _ _ (by omega), ← hrv]; exact HN.out.rdc
      have cv' : W.cell? ⟨nb, j * 2, none⟩ = some (.int .i64 ver) := by rw [hW, setCell_cell_other _ _ _ _ _ (by omega)]; exact cv
      have cl' : W.cell? ⟨nb, j * 2 + 1, none⟩ = some (.int .i64 (inBox bs s.puts j)) := by rw [hW, setCell_cell_other _ _ _ _ _ (by omega)]; exact cl
      have HFW : Hid (∀ o, W.frozen? ⟨nb, o, none⟩ = false) := by show ∀ o, _; rw [hW]; exact fun o => by simpa using HN.out.free o
      have HSW : Hid (W.heap.size = w.heap.size) := hsW
      have hnbW : nb < W.heap.size := by rw [hsW]; exact HN.out.boxes.1
      have HRV : Hid (rv = .slice ar s.reads.length cr) := hrv
      have OB : Hid (rv.ownBlock = (Value.slice ar s.reads.length cr).ownBlock) := by show _ = _; rw [hrv]
      have HRW : Hid (W.ownsRow B 40 2 (.slice ar s.reads.length cr) s.reads.length (flat s.reads)) := by
        show W.ownsRow _ _ _ _ _ _
        rw [← hrv]
        exact HN.out.reads.turned TW (fun g e => by have := (HN.out.own.1 g e).1; have := HN.out.lt; simp; omega)
      have nN : Hid ((Value.slice ar s.reads.length cr).ownBlock ≠ some nb) := by
        show _ ≠ _
        rw [← OB.out]
        exact fun e => by have := HN.out.own.1 _ e; have := HN.out.lt; omega
      have HWE : Hid (W = w.setCell ⟨nb, 13 + j, none⟩ (.bool true)) := hW
      have AFT : Hid (∀ w1 : World, W.grownBy w1 (Value.slice ar s.reads.length cr).ownBlock → w1.heap[nb]? = W.heap[nb]?) := fun w1 hg => hg.block _ hnbW (Ne.symm nN.out)
      have FIN : Hid (∀ (w1 : World) (gg cap : Nat), W.grownBy w1 (Value.slice ar s.reads.length cr).ownBlock → w1.ownsRow B 40 2 (.slice (some ⟨gg, 0, none⟩) (s.reads.length + 1) cap) (s.reads.length + 1) (flat s.reads ++ [.int .i64 j, .int .i64 ver]) → ((Value.slice ar s.reads.length cr).ownBlock = some gg ∨ gg = W.heap.size + 1) → (Kq B [nb, bm] w (w1.setCell ⟨nb, 17, none⟩ (.slice (some ⟨gg, 0, none⟩) (s.reads.length + 1) cap)) ∧ Turned (nb :: rv.ownBlock.toList) w (w1.setCell ⟨nb, 17, none⟩ (.slice (some ⟨gg, 0, none⟩) (s.reads.length + 1) cap))) ∧ NowE B nb bm (w1.setCell ⟨nb, 17, none⟩ (.slice (some ⟨gg, 0, none⟩) (s.reads.length + 1) cap)) bs k N { s with reads := lookR bs s.reads s.puts j }) := by
        intro w1 gg cap hg ho hat
        rw [EL.out]
        have hg' : (w.setCell ⟨nb, 13 + j, none⟩ (.bool true)).grownBy w1 rv.ownBlock := by rw [← HWE.out, OB.out]; exact hg
        have o : OwnP 40 w1 B (.slice (some ⟨gg, 0, none⟩) (s.reads.length + 1) cap) (s.reads ++ [((j : Int), ver)]) := by
          unfold OwnP
          rw [List.length_append, flat_snocP]
          exact ho
        obtain ⟨r1, r2, r3⟩ := HN.out.look hj hg' o (fun g e => by
          have e' : gg = g := Option.some.inj e
          subst e'
          rcases hat with h | h
          · exact .inl (by rw [OB.out]; exact h)
          · exact .inr (by have := HSW.out; omega)) hB
        exact ⟨⟨r2, r3⟩, _, _, r1⟩
      obtain ⟨i0, hi0, hz0, hz1, hz2⟩ := info_parts infoRead
      have hN : Hid (s.reads.length + 1 ≤ maxLen) := by show _ ≤ _; unfold maxLen; omega
      have hBy : Hid ((s.reads.length + 1) * 16 ≤ 140737488355328) := by show _ ≤ _; omega
      have hBW : B ≤ W.heap.size := by omega
      have qa : (W.alloc (.cells #[.int .i64 j, .int .i64 ver] 40)).cell? ⟨nb, 17, none⟩ = some (.slice ar s.reads.length cr) := (World.cell?_of_block (w := W) (a := ⟨nb, 17, none⟩) (heap_old _ _ _ (by show nb < _; omega))).trans q17
      have va : (W.alloc (.cells #[.int .i64 j, .int .i64 ver] 40)).cell? ⟨nb, j * 2, none⟩ = some (.int .i64 ver) := (World.cell?_of_block (w := W) (a := ⟨nb, j * 2, none⟩) (heap_old _ _ _ (by show nb < _; omega))).trans cv'
      have HQ17 : Hid (W.cell? ⟨nb, 17, none⟩ = some (.slice ar s.reads.length cr)) := q17
      have HCL : Hid (W.cell? ⟨nb, j * 2 + 1, none⟩ = some (.int .i64 (inBox bs s.puts j))) := cl'
      generalize inBox bs s.puts j = iv at HCL
      clear hW hsW TW hrv cv cl cl'
      go_enter Try.func172, Try.ntmps172
      go_wp2_with fail
      refine Calls.mono FY.out ?_
      rintro e w0 ⟨rfl, hw⟩
      rw [hw, ← HWE.out]
      clear hw mpc hlk
      go_upto_region 5 with fail
      go_region_law ((refine step_append_lies _ (by rfl) _ _ _ (by rfl) B 40 i0 _ 2 16 Try.underlying24 hi0 hz0 hz1 hz2 rfl (by omega) (.slice ar s.reads.length cr) s.reads.length (flat s.reads) (by rfl) ((HRW.out.alloc _).drew) ⟨W.heap.size, 0, none⟩ 1 1 [.int .i64 j, .int .i64 ver] (by rfl) (by rfl) (World.news_of_block (cs := #[.int .i64 j, .int .i64 ver]) (t := 40) (fr := (0, 0)) (heap_alloc_new W _)) (by simp [Value.oneCell']) (by omega) hN.out hBy.out (by simp; omega) (W.heap.size + 1) (by simp) ?_; intro gg cap w1 hown1 hgrow hat hlt; have GW : W.grownBy w1 (Value.slice ar s.reads.length cr).ownBlock := World.grownBy.trans (grDrew (grAlloc (grR W _) _)) hgrow; have f0 : w1.frozen? ⟨nb, 17, none⟩ = false := (World.frozen?_of_block (w := W) (a := ⟨nb, 17, none⟩) (AFT.out w1 GW)).trans (HFW.out 17); have c0 : w1.cell? ⟨nb, 17, none⟩ = some (.slice ar s.reads.length cr) := (World.cell?_of_block (w := W) (a := ⟨nb, 17, none⟩) (AFT.out w1 GW)).trans HQ17.out))
      all_goals
        have cl1 : w1.cell? ⟨nb, j * 2 + 1, none⟩ = some (.int .i64 iv) := (World.cell?_of_block (w := W) (a := ⟨nb, j * 2 + 1, none⟩) (AFT.out w1 GW)).trans HCL.out
        have F3 : Hid _ := FIN.out w1 gg cap GW hown1 hat
        clear hown1 hgrow hat hlt GW
        go_wp2
        go_ret
        exact ⟨rfl, F3.out⟩
end Go.Proofs.Ytgcencilgpilaaa.Own

namespace Go.Proofs.Ytgcencilgpilaaa.Own
open Go.RowKit
set_option linter.unusedVariables false
set_option linter.unusedSimpArgs false

set_option maxRecDepth 100000 in
set_option maxHeartbeats 4000000 in
theorem loadC (B nb bm : Nat) (bs : List P2) (k N : Nat) (s : RunSt) (rv ov : Value) (kd pn : Int) (na nb' : Nat) (w : World) (h : Now B nb bm w bs k N s rv ov) (hB : B ≤ w.heap.size) (ha : na < 4) (hb : nb' < 4) (lx : s.reads.length ≤ 1000) :
    Calls Try.prog 165 #[.pointer (some ⟨nb, 0, none⟩), .agg #[.int .i64 kd, .int .i64 na, .int .i64 nb', .int .i64 pn]] w fun e w' => SetPost B nb bm bs k N { s with reads := lookR bs s.reads s.puts nb' } na (inBox bs s.puts nb') w e w' := by
  obtain ⟨X, hX⟩ : ∃ X, X = w.alloc (.cells #[.int .i64 kd, .int .i64 na, .int .i64 nb', .int .i64 pn] 156) := ⟨_, rfl⟩
  have gX : X.heap[w.heap.size]? = some (.cells #[.int .i64 kd, .int .i64 na, .int .i64 nb', .int .i64 pn] 156 (0, 0)) := by rw [hX]; exact heap_new _ _
  have BX : Hid (Below w.heap.size w X) := by show Below _ _ _; rw [hX]; exact below_new _ _
  have HSX : Hid (X.heap.size = w.heap.size + 1) := by show _ = _; rw [hX]; simp
  have HX : Hid (X = _) := hX
  have HN : Hid (Now B nb bm X bs k N s rv ov) := h.below BX.out
  have HI : Hid (X.cell? ⟨w.heap.size, 1, none⟩ = some (.int .i64 na) ∧ X.cell? ⟨w.heap.size, 2, none⟩ = some (.int .i64 nb')) := ⟨(cell_heap gX 1).trans rfl, (cell_heap gX 2).trans rfl⟩
  have hBX : B ≤ X.heap.size := by have := BX.out.size; omega
  have KX : Hid (Kq B [nb, bm] w X) := (Turned.ofBelow (L := []) BX.out).kq hB (by simp)
  have hlt := h.lt
  have LK : Hid (∀ u, Turned [] X u → Calls Try.prog 172 #[.pointer (some ⟨nb, 0, none⟩), .int .i64 nb'] u fun e w' => e = .returned (.int .i64 (inBox bs s.puts nb')) ∧ (w'.cell? ⟨w.heap.size, 1, none⟩ = some (.int .i64 na) ∧ w'.cell? ⟨w.heap.size, 2, none⟩ = some (.int .i64 nb')) ∧ Kq B [nb, bm] X w' ∧ NowE B nb bm w' bs k N { s with reads := lookR bs s.reads s.puts nb' }) := by
    intro u hu
    have h0 := HN.out.turned hu (by simp) (by simp) (by simp) (by simp)
    refine (lookC B nb bm bs k N s rv ov nb' u h0 (Nat.le_trans hBX hu.size) hb lx).mono ?_
    rintro e w' ⟨rfl, ⟨k1, t1⟩, hn⟩
    have e1 : w'.heap[w.heap.size]? = X.heap[w.heap.size]? := by
      refine (t1.block _ (by have := hu.size; have := HSX.out; omega) ?_).trans (hu.block _ (by have := HSX.out; omega) (by simp))
      simp only [List.mem_cons, Option.mem_toList, not_or]
      refine ⟨by omega, fun e => ?_⟩
      have := (World.ownsRow.lt h.reads _ e).2
      omega
    exact ⟨rfl, ⟨(World.cell?_of_block (w := X) (a := ⟨w.heap.size, 1, none⟩) e1).trans HI.out.1, (World.cell?_of_block (w := X) (a := ⟨w.heap.size, 2, none⟩) e1).trans HI.out.2⟩, Kq.trans (hu.kq hBX (by simp)) k1, hn⟩
  clear hX gX h
  generalize inBox bs s.puts nb' = iv at LK ⊢
  generalize { s with reads := lookR bs s.reads s.puts nb' } = s1 at LK ⊢
  have HI1 := HI.out.1
  have HI2 := HI.out.2
  go_enter Try.func165, Try.ntmps165
  go_upto_region 1 with fail
  rw [← HX.out]
  refine wp_region_held_drew (S := (fun w' : World => w'.cell? ⟨w.heap.size, 1, none⟩ = some (.int .i64 na) ∧ w'.cell? ⟨w.heap.size, 2, none⟩ = some (.int .i64 nb'))) (by kernel_rfl) ⟨HI1, HI2⟩ (fun hHeld => ?_)
  refine wpAnyH_take (i := 0) (v := ?v0) rfl (by kernel_rfl) (by kernel_rfl) (by kernel_rfl) (fun _ _ _ h => h) (Or.inl ⟨by rfl, ?y0⟩) (by assumption) ?r0
  case y0 =>
    intro w' hSw
    try dsimp only at hSw
    go_simp
    try with_reducible rfl
  try simp only [Act.put, List.setIfInBounds_toArray, List.set_cons_zero, List.set_cons_succ]
  refine wpAnyH_take (i := 1) (v := ?v1) rfl (by kernel_rfl) (by kernel_rfl) (by kernel_rfl) (fun _ _ _ h => h) (Or.inl ⟨by rfl, ?y1⟩) (by assumption) ?r1
  case y1 =>
    intro w' hSw
    try dsimp only at hSw
    go_simp
    try with_reducible rfl
  try simp only [Act.put, List.setIfInBounds_toArray, List.set_cons_zero, List.set_cons_succ]
  refine wpAnyH_take (i := 2) (v := ?v2) rfl (by kernel_rfl) (by kernel_rfl) (by kernel_rfl) (fun _ _ _ h => h) (Or.inl ⟨by rfl, ?y2⟩) (by assumption) ?r2
  case y2 =>
    intro w' hSw
    try dsimp only at hSw
    go_simp
    try with_reducible rfl
  try simp only [Act.put, List.setIfInBounds_toArray, List.set_cons_zero, List.set_cons_succ]
  refine wpAnyH_take (i := 3) (v := ?v3) rfl (by kernel_rfl) (by kernel_rfl) (by kernel_rfl) (fun _ _ _ h => h) (Or.inl ⟨by rfl, ?y3⟩) (by assumption) ?r3
  case y3 =>
    intro w' hSw
    try dsimp only at hSw
    go_simp
    try with_reducible rfl
  try simp only [Act.put, List.setIfInBounds_toArray, List.set_cons_zero, List.set_cons_succ]
  refine wpAnyH_take (i := 4) (v := ?v4) rfl (by kernel_rfl) (by kernel_rfl) (by kernel_rfl) (fun _ _ _ h => h) (Or.inl ⟨by rfl, ?y4⟩) (by assumption) ?r4
  case y4 =>
    intro w' hSw
    try dsimp only at hSw
    go_simp
    try with_reducible rfl
  try simp only [Act.put, List.setIfInBounds_toArray, List.set_cons_zero, List.set_cons_succ]
  refine wpAnyH_take (i := 5) (v := ?v5) rfl (by kernel_rfl) (by kernel_rfl) (by kernel_rfl) (fun _ _ _ h => h) (Or.inl ⟨by rfl, ?y5⟩) (by assumption) ?r5
  case y5 =>
    intro w' hSw
    try dsimp only at hSw
    go_simp
    try with_reducible rfl
  try simp only [Act.put, List.setIfInBounds_toArray, List.set_cons_zero, List.set_cons_succ]
  refine wpAnyH_ready (rs := [6]) (by kernel_rfl) (by simp) ?_
  refine AllReadyH.cons rfl (fun K hK => ?_) AllReadyH.nil
  go_simp
  refine Calls.mono (LK.out _ (Turned.refl _ _).drew) ?_
  rintro e w1 ⟨rfl, hI, K1, rv1, ov1, hn1⟩
  have KW : Hid (Kq B [nb, bm] w w1) := KX.out.trans K1
  have hltw : w.heap.size < w1.heap.size := by have := K1.size; have := HSX.out; omega
  have SET : Hid (Calls Try.prog 167 #[.pointer (some ⟨nb, 0, none⟩), .int .i64 na, .int .i64 iv] w1 fun e w' => SetPost B nb bm bs k N s1 na iv w e w' ∧ (w'.cell? ⟨w.heap.size, 1, none⟩ = some (.int .i64 na) ∧ w'.cell? ⟨w.heap.size, 2, none⟩ = some (.int .i64 nb'))) := by
    refine (nowSet B nb bm bs k N s1 rv1 ov1 na _ w1 hn1 (Nat.le_trans hBX K1.size) ha).mono ?_
    rintro e w2 ⟨⟨k2, r2⟩, t2⟩
    have e1 : w2.heap[w.heap.size]? = w1.heap[w.heap.size]? := t2.block _ hltw (by simp; omega)
    exact ⟨⟨KW.out.trans k2, r2⟩, (World.cell?_of_block (w := w1) (a := ⟨w.heap.size, 1, none⟩) e1).trans hI.1, (World.cell?_of_block (w := w1) (a := ⟨w.heap.size, 2, none⟩) e1).trans hI.2⟩
  clear K1 hn1
  refine hK.out _ _ hI (fun hHeld1 => ?_)
  clear hK K hHeld hHeld1 hI
  refine wpAnyH_ready (rs := [7]) (by kernel_rfl) (by simp) ?_
  refine AllReadyH.cons rfl (fun K hK => ?_) AllReadyH.nil
  go_simp
  refine Calls.mono SET.out ?_
  rintro e w2 ⟨⟨K2, hc⟩, hI2⟩
  rcases hc with ⟨hv, rfl, hN⟩ | ⟨hv, rfl, hN⟩
  · have F : Hid (SetPost B nb bm bs k N s1 na iv w (.returned (.tuple #[])) w2) := ⟨K2, .inl ⟨hv, rfl, hN⟩⟩
    clear K2 hv hN
    refine hK.out _ _ hI2 (fun _ => ?_)
    clear hK K hI2
    refine wpAnyH_done (by kernel_rfl) ?_ _
    go_wp2_with fail
    go_end0
    exact F.out
  · have F : Hid (SetPost B nb bm bs k N s1 na iv w (thrown 2) w2) := ⟨K2, .inr ⟨hv, rfl, hN⟩⟩
    exact ⟨rfl, F.out⟩
end Go.Proofs.Ytgcencilgpilaaa.Own

namespace Go.Proofs.Ytgcencilgpilaaa.Own
open Go.RowKit
set_option linter.unusedVariables false
set_option linter.unusedSimpArgs false

theorem infoIntR : (Try.prog.info? 3).map (fun i => (i.zero, i.size, i.bytes)) = some (some (.int .i64 0), 1, 8) := by kernel_rfl

/-- Something has been put. -/
theorem Now.put {B nb bm : Nat} {w V w4 : World} {bs : List P2} {k N : Nat} {s : RunSt} {rv ov ov' : Value} {j : Nat} {n : Int} (h : Now B nb bm w bs k N s rv ov) (hB : B ≤ w.heap.size)
    (tV : Turned (nb :: ov.ownBlock.toList) w V) (cV : ∀ o, o ≠ 19 → V.cell? ⟨nb, o, none⟩ = w.cell? ⟨nb, o, none⟩) (c19 : V.cell? ⟨nb, 19, none⟩ = some ov') (fV : ∀ o, V.frozen? ⟨nb, o, none⟩ = false)
    (oV : OwnI V B ov' ((putP s.puts j n).map Prod.fst)) (hnew : ∀ g, ov'.ownBlock = some g → ov.ownBlock = some g ∨ w.heap.size ≤ g) (t4 : V.mapTurned w4 bm) (m4 : MapP w4 bm (N + 1) (putP s.puts j n)) :
    Now B nb bm w4 bs k (N + 1) { s with puts := putP s.puts j n } rv ov' ∧ Kq B [nb, bm] w w4 := by
  obtain ⟨o1, o2⟩ := h.own
  obtain ⟨l1, l2, l3⟩ := h.lt
  have t5 : Turned [bm] V w4 := mapTurned.turned t4
  have hnbV : nb < V.heap.size := Nat.lt_of_lt_of_le h.boxes.1 tV.size
  have b5 : w4.heap[nb]? = V.heap[nb]? := t5.block nb hnbV (by simp; omega)
  have e5 : ∀ o, w4.cell? ⟨nb, o, none⟩ = V.cell? ⟨nb, o, none⟩ := fun o => World.cell?_of_block (w := V) (a := ⟨nb, o, none⟩) b5
  have ek : ∀ o, o ≠ 19 → w4.cell? ⟨nb, o, none⟩ = w.cell? ⟨nb, o, none⟩ := fun o ho => (e5 o).trans (cV o ho)
  have tw : Turned (bm :: nb :: ov.ownBlock.toList) w w4 := (tV.mono (fun x hx => List.mem_cons_of_mem _ hx)).trans (t5.mono (by simp))
  have hs4 : nb < w4.heap.size := Nat.lt_of_lt_of_le hnbV t5.size
  have hov' : ∀ g, ov'.ownBlock = some g → B ≤ g := fun g e => by
    rcases hnew g e with h' | h'
    · exact (o2 g h').1
    · omega
  refine ⟨⟨⟨hs4, fun i hi => ?_⟩, h.len, ⟨hs4, fun i hi => ?_⟩, h.four, ?_, fun i hi => ?_, ?_, ?_, ?_, fun o => ?_, ?_, ?_, m4, ?_, h.lt⟩, ?_⟩
  · have hi' := hi
    rw [h.len] at hi'
    rw [ek _ (by omega), ek _ (by omega)]; exact h.boxes.2 i hi
  · have hi' : i < s.regs.length := hi
    have := h.four
    rw [ek _ (by omega)]; exact h.regs.2 i hi'
  · rw [ek _ (by omega)]; exact h.next
  · rw [ek _ (by omega)]; exact h.looked i hi
  · rw [ek _ (by omega)]; exact h.rdc
  · rw [ek _ (by omega)]; exact h.mpc
  · rw [e5]; exact c19
  · rw [World.frozen?_of_block (w := V) (a := ⟨nb, o, none⟩) b5]; exact fV o
  · refine h.reads.turned tw (fun g e => ?_)
    have := o1 g e
    simp only [List.mem_cons, Option.mem_toList, not_or]
    refine ⟨by omega, by omega, fun e' => ?_⟩
    rcases h.apart with h' | h'
    · rw [h'] at e; cases e
    · exact h' (by rw [e, e'])
  · exact oV.turned t5 (fun g e => by have := hov' g e; simp; omega)
  · cases hr : rv.ownBlock with
    | none => exact .inl rfl
    | some g =>
      refine .inr fun e => ?_
      rcases hnew g e.symm with h' | h'
      · rcases h.apart with h'' | h''
        · rw [h''] at hr; cases hr
        · exact h'' (by rw [hr, h'])
      · have := o1 g hr; omega
  · exact tw.kq hB (fun x hx => by
      simp only [List.mem_cons, Option.mem_toList] at hx
      rcases hx with rfl | rfl | hx
      · exact .inl (by simp)
      · exact .inl (by simp)
      · exact .inr (o2 x hx).1)

set_option maxRecDepth 100000 in
set_option maxHeartbeats 4000000 in
theorem putC (B nb bm : Nat) (bs : List P2) (k N : Nat) (s : RunSt) (rv ov : Value) (kd pn : Int) (j nb' : Nat) (w : World) (h : Now B nb bm w bs k N s rv ov) (hB : B ≤ w.heap.size) (hj : j < 4) (hb : nb' < 4) (lx : s.puts.length ≤ 1000) (hN : N ≤ 1000) (hnum : numOk (s.regs.getD nb' 0) = true) :
    Calls Try.prog 166 #[.pointer (some ⟨nb, 0, none⟩), .agg #[.int .i64 kd, .int .i64 j, .int .i64 nb', .int .i64 pn]] w fun e w' => e = .returned (.tuple #[]) ∧ Kq B [nb, bm] w w' ∧ NowE B nb bm w' bs k (N + 1) { s with puts := putP s.puts j (s.regs.getD nb' 0) } := by
  obtain ⟨X, hX⟩ : ∃ X, X = w.alloc (.cells #[.int .i64 kd, .int .i64 j, .int .i64 nb', .int .i64 pn] 156) := ⟨_, rfl⟩
  have gX : X.heap[w.heap.size]? = some (.cells #[.int .i64 kd, .int .i64 j, .int .i64 nb', .int .i64 pn] 156 (0, 0)) := by rw [hX]; exact heap_new _ _
  have BX : Hid (Below w.heap.size w X) := by show Below _ _ _; rw [hX]; exact below_new _ _
  have HSX : Hid (X.heap.size = w.heap.size + 1) := by show _ = _; rw [hX]; simp
  have HX : Hid (X = _) := hX
  have HN : Hid (Now B nb bm X bs k N s rv ov) := h.below BX.out
  have GX : Hid (X.heap[w.heap.size]? = some (.cells #[.int .i64 kd, .int .i64 j, .int .i64 nb', .int .i64 pn] 156 (0, 0))) := gX
  have v1 : X.cell? ⟨w.heap.size, 1, none⟩ = some (.int .i64 j) := (cell_heap gX 1).trans rfl
  have hBX : B ≤ X.heap.size := by have := BX.out.size; omega
  have KX : Hid (Kq B [nb, bm] w X) := (Turned.ofBelow (L := []) BX.out).kq hB (by simp)
  have mpc := HN.out.mpc
  have hlk : ∀ m, (Instr.lookup 179 (.map (some bm)) (.int .i64 (j : Int)) true).run Try.prog (X.drewN m) = .ok (.tuple #[.int .i64 (if hasBox s.puts j then inBox [] s.puts j else 0), .bool (hasBox s.puts j)]) (X.drewN m) := fun m => (HN.out.map.block (w' := X.drewN m) rfl).look_ok' j hj
  have hltn : nb < w.heap.size := h.boxes.1
  have hlt := h.lt
  have hbi : (nb' : Int) < 4 := by omega
  -- from the store of the order on
  have PUT : Hid (∀ (V : World) (ov' : Value), Turned (nb :: ov.ownBlock.toList) X V → (∀ o, o ≠ 19 → V.cell? ⟨nb, o, none⟩ = X.cell? ⟨nb, o, none⟩) → V.cell? ⟨nb, 19, none⟩ = some ov' → (∀ o, V.frozen? ⟨nb, o, none⟩ = false) → OwnI V B ov' ((putP s.puts j (s.regs.getD nb' 0)).map Prod.fst) → (∀ g, ov'.ownBlock = some g → ov.ownBlock = some g ∨ X.heap.size ≤ g) →
      ∃ w4, (Instr.mapUpdate 179 (.map (some bm)) (.int .i64 (j : Int)) (.int .i64 (s.regs.getD nb' 0))).run Try.prog V.drew = .ok () w4 ∧ Kq B [nb, bm] w w4 ∧ NowE B nb bm w4 bs k (N + 1) { s with puts := putP s.puts j (s.regs.getD nb' 0) }) := by
    intro V ov' tV cV c19 fV oV hnew
    have mV : MapP V.drew bm N s.puts := HN.out.map.block (tV.block bm HN.out.map.lt (by
      simp only [List.mem_cons, Option.mem_toList, not_or]
      exact ⟨by omega, fun e' => by have := HN.out.own.2 _ e'; omega⟩))
    obtain ⟨w4, hrun, m4, t4⟩ := mV.put hN j hj _ hnum
    obtain ⟨r1, r2⟩ := HN.out.put (V := V.drew) (n := s.regs.getD nb' 0) hBX tV.drew cV c19 fV oV hnew t4 m4
    exact ⟨w4, hrun, KX.out.trans r2, _, _, r1⟩
  have HXC : Hid (∀ o, X.cell? ⟨nb, o, none⟩ = X.cell? ⟨nb, o, none⟩) := fun _ => rfl
  have rgb := HN.out.regs.2 nb' (by rw [HN.out.four]; exact hb)
  have odc := HN.out.odc
  generalize hz : s.regs.getD nb' 0 = z at rgb PUT
  have v2 : X.cell? ⟨w.heap.size, 2, none⟩ = some (.int .i64 nb') := (cell_heap gX 2).trans rfl
  have nn : ¬ nb = w.heap.size := by omega
  have nn' : ¬ w.heap.size = nb := by omega
  have OVW : Hid (∀ g, ov.ownBlock = some g → B ≤ g ∧ g < w.heap.size) := h.own.2
  clear hX gX h hnum hz
  cases hy : hasBox s.puts j with
  | true =>
    rw [hy] at hlk
    have P1 := PUT.out
    go_enter Try.func166, Try.ntmps166
    go_upto_region 1 with fail
    rw [← HX.out]
    go_quiet (fail)
    obtain ⟨V, hV⟩ : ∃ V, V = X.drewN nq := ⟨_, rfl⟩
    obtain ⟨w4, hrun, F1, F2⟩ := P1 V ov (by rw [hV]; exact (Turned.refl _ _).drewN _) (fun o _ => by rw [hV]; rfl) (by rw [hV]; exact odc) (by rw [hV]; exact HN.out.free) (by rw [putP_fst, if_pos hy, hV]; exact HN.out.order.turned (L := []) ((Turned.refl _ _).drewN _) (by simp)) (fun g e => .inl e)
    have FF : Hid (Kq B [nb, bm] w w4 ∧ NowE B nb bm w4 bs k (N + 1) { s with puts := putP s.puts j z }) := ⟨F1, F2⟩
    have v1' : V.cell? ⟨w.heap.size, 1, none⟩ = some (.int .i64 j) := by rw [hV]; exact v1
    have v2' : V.cell? ⟨w.heap.size, 2, none⟩ = some (.int .i64 nb') := by rw [hV]; exact v2
    have mpc' : V.cell? ⟨nb, 18, none⟩ = some (.map (some bm)) := by rw [hV]; exact mpc
    have rgb' : V.cell? ⟨nb, 8 + nb', none⟩ = some (.int .i64 z) := by rw [hV]; exact rgb
    clear F1 F2 P1 PUT hy
    rw [← hV]
    clear hV v1 v2 mpc rgb hlk odc
    go_upto_region 4 with fail
    refine region_still_tail 13 (by kernel_rfl) (by kernel_rfl) ?_
    simp only [List.take_succ_cons, List.take_zero, List.drop_succ_cons, List.drop_zero]
    iterate 13 still_step
    refine wpStill_nil ?_
    go_wp2
    go_end0
    exact ⟨rfl, FF.out⟩
  | false =>
    rw [hy] at hlk
    have P1 := PUT.out
    obtain ⟨ao, co, hov, _, hco⟩ := HN.out.order.open
    have HOV : Hid (ov = .slice ao (s.puts.map Prod.fst).length co) := hov
    have OB : Hid (ov.ownBlock = (Value.slice ao (s.puts.map Prod.fst).length co).ownBlock) := by show _ = _; rw [hov]
    have EP : Hid ((putP s.puts j z).map Prod.fst = s.puts.map Prod.fst ++ [(j : Int)]) := by show _ = _; rw [putP_fst, hy]; rfl
    have lo : (s.puts.map Prod.fst).length ≤ 1000 := by simpa using lx
    rw [hov] at odc
    have HOX : Hid (OwnI X B (.slice ao (s.puts.map Prod.fst).length co) (s.puts.map Prod.fst)) := by show OwnI _ _ _ _; rw [← hov]; exact HN.out.order
    generalize s.puts.map Prod.fst = ord at odc HOV OB EP lo HOX
    clear hov hco hy
    go_enter Try.func166, Try.ntmps166
    go_upto_region 1 with fail
    rw [← HX.out]
    go_quiet (fail)
    obtain ⟨Y, hY⟩ : ∃ Y, Y = X.drewN nq := ⟨_, rfl⟩
    have v1' : Y.cell? ⟨w.heap.size, 1, none⟩ = some (.int .i64 j) := by rw [hY]; exact v1
    have q19 : Y.cell? ⟨nb, 19, none⟩ = some (.slice ao ord.length co) := by rw [hY]; exact odc
    have HYX : Hid (∀ i : Nat, Y.heap[i]? = X.heap[i]?) := by show ∀ i, _; rw [hY]; exact fun _ => rfl
    have TY : Hid (Turned [] X Y) := by show Turned _ _ _; rw [hY]; exact (Turned.refl _ _).drewN _
    have HOY : Hid (Y.ownsRow B 3 1 (.slice ao ord.length co) ord.length (ord.map (Value.int .i64))) := by show World.ownsRow _ _ _ _ _ _ _; rw [hY]; exact HOX.out.turned (L := []) ((Turned.refl _ _).drewN _) (by simp)
    have hsY : Y.heap.size = X.heap.size := by rw [hY]; rfl
    have HSY : Hid (Y.heap.size = X.heap.size) := hsY
    rw [← hY]
    clear hY v1 odc hlk
    obtain ⟨i0, hi0, hz0, hz1, hz2⟩ := info_parts infoIntR
    have hM : Hid (ord.length + 1 ≤ maxLen) := by show _ ≤ _; unfold maxLen; omega
    have hBy : Hid ((ord.length + 1) * 8 ≤ 140737488355328) := by show _ ≤ _; omega
    have hBY : B ≤ Y.heap.size := by omega
    have hnbY : nb < Y.heap.size := by have := HSX.out; omega
    have hwY : w.heap.size < Y.heap.size := by have := HSX.out; omega
    have nN : Hid ((Value.slice ao ord.length co).ownBlock ≠ some nb ∧ (Value.slice ao ord.length co).ownBlock ≠ some w.heap.size) := by
      show _ ∧ _
      rw [← OB.out]
      exact ⟨fun e => by have := OVW.out _ e; omega, fun e => by have := OVW.out _ e; omega⟩
    have AFT : Hid (∀ w1 : World, Y.grownBy w1 (Value.slice ao ord.length co).ownBlock → w1.heap[nb]? = Y.heap[nb]? ∧ w1.heap[w.heap.size]? = Y.heap[w.heap.size]?) := fun w1 hg => ⟨hg.block _ hnbY (Ne.symm nN.out.1), hg.block _ hwY (Ne.symm nN.out.2)⟩
    have qa : (Y.alloc (.cells #[.int .i64 j] 3)).cell? ⟨nb, 19, none⟩ = some (.slice ao ord.length co) := (World.cell?_of_block (w := Y) (a := ⟨nb, 19, none⟩) (heap_old _ _ _ (by show nb < _; omega))).trans q19
    have va : (Y.alloc (.cells #[.int .i64 j] 3)).cell? ⟨w.heap.size, 1, none⟩ = some (.int .i64 j) := (World.cell?_of_block (w := Y) (a := ⟨w.heap.size, 1, none⟩) (heap_old _ _ _ (by show w.heap.size < _; omega))).trans v1'
    have HQ19 : Hid (Y.cell? ⟨nb, 19, none⟩ = some (.slice ao ord.length co)) := q19
    have HFY : Hid (∀ o, Y.frozen? ⟨nb, o, none⟩ = false) := fun o => (World.frozen?_of_block (w := X) (a := ⟨nb, o, none⟩) (HYX.out nb)).trans (HN.out.free o)
    have PP : Hid _ := P1
    have vv2 : Hid (X.cell? ⟨w.heap.size, 2, none⟩ = some (.int .i64 nb')) := v2
    have vmp : Hid (X.cell? ⟨nb, 18, none⟩ = some (.map (some bm))) := mpc
    have vrg : Hid (X.cell? ⟨nb, 8 + nb', none⟩ = some (.int .i64 z)) := rgb
    clear P1 PUT hsY v2 mpc rgb
    go_upto_region 3 with fail
    go_region_law ((refine step_append_lies _ (by rfl) _ _ _ (by rfl) B 3 i0 _ 1 8 Try.underlying48 hi0 hz0 hz1 hz2 rfl (by omega) (.slice ao ord.length co) ord.length (ord.map (Value.int .i64)) (by rfl) ((HOY.out.alloc _).drew) ⟨Y.heap.size, 0, none⟩ 1 1 [.int .i64 j] (by rfl) (by rfl) (World.news_of_block (cs := #[.int .i64 j]) (t := 3) (fr := (0, 0)) (heap_alloc_new Y _)) (by simp [Value.oneCell']) (by omega) hM.out hBy.out (by simp; omega) (Y.heap.size + 1) (by simp) ?_; intro gg cap w1 hown1 hgrow hat hlt; have GW : Y.grownBy w1 (Value.slice ao ord.length co).ownBlock := World.grownBy.trans (grDrew (grAlloc (grR Y _) _)) hgrow; have f0 : w1.frozen? ⟨nb, 19, none⟩ = false := (World.frozen?_of_block (w := Y) (a := ⟨nb, 19, none⟩) (AFT.out w1 GW).1).trans (HFY.out 19); have c0 : w1.cell? ⟨nb, 19, none⟩ = some (.slice ao ord.length co) := (World.cell?_of_block (w := Y) (a := ⟨nb, 19, none⟩) (AFT.out w1 GW).1).trans HQ19.out))
    all_goals
      obtain ⟨A0, A1⟩ := AFT.out w1 GW
      have b0 : w1.heap[nb]? = X.heap[nb]? := A0.trans (HYX.out nb)
      have b1 : w1.heap[w.heap.size]? = X.heap[w.heap.size]? := A1.trans (HYX.out w.heap.size)
      have hs1 : Y.heap.size ≤ w1.heap.size := GW.size
      obtain ⟨V, hV⟩ : ∃ V, V = w1.setCell ⟨nb, 19, none⟩ (.slice (some ⟨gg, 0, none⟩) (ord.length + 1) cap) := ⟨_, rfl⟩
      have cV : ∀ o, o ≠ 19 → V.cell? ⟨nb, o, none⟩ = X.cell? ⟨nb, o, none⟩ := fun o ho => by
        rw [hV, setCell_cell_other _ _ _ _ _ (Ne.symm ho)]
        exact World.cell?_of_block (w := X) (a := ⟨nb, o, none⟩) b0
      have bV : V.heap[w.heap.size]? = X.heap[w.heap.size]? := by
        rw [hV, Below.heap_setCell _ _ _ _ (by show w.heap.size ≠ nb; omega)]; exact b1
      have t1 : Turned (nb :: ov.ownBlock.toList) X V := by
        have a1 : Turned (nb :: ov.ownBlock.toList) Y w1 := Turned.ofGrown GW (fun g e => by rw [← OB.out] at e; simp [e])
        rw [hV]
        exact Turned.set ((TY.out.mono (by simp)).trans a1) (by simp) _
      obtain ⟨w4, hrun, F1, F2⟩ := PP.out V (.slice (some ⟨gg, 0, none⟩) (ord.length + 1) cap) t1 cV
        (by rw [hV]; exact setCell_cell_same _ _ _ _ _ c0)
        (fun o => by
          have f1 : w1.frozen? ⟨nb, o, none⟩ = false := (World.frozen?_of_block (w := X) (a := ⟨nb, o, none⟩) b0).trans (HN.out.free o)
          rw [hV]; simpa using f1)
        (by
          rw [EP.out]
          have o : OwnI w1 B (.slice (some ⟨gg, 0, none⟩) (ord.length + 1) cap) (ord ++ [(j : Int)]) := by
            unfold OwnI
            rw [List.length_append, List.map_append]
            exact hown1
          rw [hV]
          refine o.turned (L := [nb]) ((Turned.refl _ _).set (by simp) _) (fun g e => ?_)
          have e' : gg = g := Option.some.inj e
          subst e'
          rcases hat with h | h
          · rw [← OB.out] at h; have := OVW.out _ h; simp; omega
          · simp; omega)
        (fun g e => by
          have e' : gg = g := Option.some.inj e
          subst e'
          rcases hat with h | h
          · exact .inl (by rw [OB.out]; exact h)
          · exact .inr (by have := HSY.out; omega))
      have FF : Hid (Kq B [nb, bm] w w4 ∧ NowE B nb bm w4 bs k (N + 1) { s with puts := putP s.puts j z }) := ⟨F1, F2⟩
      have v1V : V.cell? ⟨w.heap.size, 1, none⟩ = some (.int .i64 j) := (World.cell?_of_block (w := X) (a := ⟨w.heap.size, 1, none⟩) bV).trans ((cell_heap GX.out 1).trans rfl)
      have v2V : V.cell? ⟨w.heap.size, 2, none⟩ = some (.int .i64 nb') := (World.cell?_of_block (w := X) (a := ⟨w.heap.size, 2, none⟩) bV).trans vv2.out
      have mpV : V.cell? ⟨nb, 18, none⟩ = some (.map (some bm)) := (cV 18 (by omega)).trans vmp.out
      have rgV : V.cell? ⟨nb, 8 + nb', none⟩ = some (.int .i64 z) := (cV (8 + nb') (by omega)).trans vrg.out
      rw [← hV]
      clear F1 F2 hV cV bV t1 A0 A1 b0 b1 hown1 hgrow hat hlt GW f0 c0 v1' q19 qa va hs1
      go_upto_region 4 with fail
      refine region_still_tail 13 (by kernel_rfl) (by kernel_rfl) ?_
      simp only [List.take_succ_cons, List.take_zero, List.drop_succ_cons, List.drop_zero]
      iterate 13 still_step
      refine wpStill_nil ?_
      go_wp2
      go_end0
      exact ⟨rfl, FF.out⟩
end Go.Proofs.Ytgcencilgpilaaa.Own

namespace Go.Proofs.Ytgcencilgpilaaa.Own
open Go.RowKit
set_option linter.unusedVariables false
set_option linter.unusedSimpArgs false

theorem SetPost.todo {B nb bm : Nat} {bs : List P2} {k N : Nat} {s s' : RunSt} {p : Q4} {na : Nat} {v : Int} {w w' : World} {e : Ending} (h : SetPost B nb bm bs k N s' na v w e w') (h6 : ¬ p.1 = 6) (hc : s'.code = 0) (es : stepR bs s p = setReg s' na v) : DoPost B nb bm bs k N s p w e w' := by
  obtain ⟨hk, h⟩ := h
  refine ⟨hk, ?_⟩
  rw [if_neg h6, es]
  rcases h with ⟨hv, rfl, rv, ov, hn⟩ | ⟨hv, rfl, rv, ov, hn⟩
  · rw [if_pos (by simp [setReg, hv, hc])]
    exact ⟨rfl, rv, ov, hn.mono (by omega)⟩
  · have e2 : (setReg s' na v).code = 2 := by simp [setReg, hv]
    rw [if_neg (by rw [e2]; decide), e2]
    exact ⟨rfl, hn.left⟩
theorem SetPost.from {B nb bm : Nat} {bs : List P2} {k N : Nat} {s : RunSt} {na : Nat} {v : Int} {w X w' : World} {e : Ending} (h : SetPost B nb bm bs k N s na v X e w') (hk : Kq B [nb, bm] w X) : SetPost B nb bm bs k N s na v w e w' := ⟨hk.trans h.1, h.2⟩
/-- It returns, or panics with a code. -/
theorem DoPost.ends {B nb bm : Nat} {bs : List P2} {k N : Nat} {s : RunSt} {p : Q4} {w w' : World} {e : Ending} (h : DoPost B nb bm bs k N s p w e w') : e = .returned (.tuple #[]) ∨ e = thrown (stepR bs s p).code := by
  obtain ⟨_, h⟩ := h
  by_cases h6 : p.1 = 6
  · rw [if_pos h6] at h; exact .inl h.1
  · rw [if_neg h6] at h
    by_cases hc : (stepR bs s p).code = 0
    · rw [if_pos hc] at h; exact .inl h.1
    · rw [if_neg hc] at h; exact .inr h.1
theorem SetPost.ends {B nb bm : Nat} {bs : List P2} {k N : Nat} {s : RunSt} {na : Nat} {v : Int} {w w' : World} {e : Ending} (h : SetPost B nb bm bs k N s na v w e w') : e = .returned (.tuple #[]) ∨ e = thrown 2 := by
  obtain ⟨_, h⟩ := h
  rcases h with ⟨_, h, _⟩ | ⟨_, h, _⟩
  · exact .inl h
  · exact .inr h

set_option maxRecDepth 100000 in
set_option maxHeartbeats 4000000 in
theorem doC (B nb bm : Nat) (bs : List P2) (k N : Nat) (s : RunSt) (rv ov : Value) (p : Q4) (w : World) (h : Now B nb bm w bs k N s rv ov) (hB : B ≤ w.heap.size) (hp : insOk p = true) (hc : s.code = 0) (hnum : ∀ i, i < 4 → numOk (s.regs.getD i 0) = true) (lx : s.reads.length ≤ 1000) (ly : s.puts.length ≤ 1000) (hN : N ≤ 1000) (hk : k ≤ 100) :
    Calls Try.prog 161 #[.pointer (some ⟨nb, 0, none⟩), .agg #[.int .i64 p.1, .int .i64 p.2.1, .int .i64 p.2.2.1, .int .i64 p.2.2.2]] w fun e w' => DoPost B nb bm bs k N s p w e w' := by
  obtain ⟨kd, pa, pb, pn⟩ := p
  dsimp only
  obtain ⟨X, hX⟩ : ∃ X, X = w.alloc (.cells #[.int .i64 kd, .int .i64 pa, .int .i64 pb, .int .i64 pn] 156) := ⟨_, rfl⟩
  have gX : X.heap[w.heap.size]? = some (.cells #[.int .i64 kd, .int .i64 pa, .int .i64 pb, .int .i64 pn] 156 (0, 0)) := by rw [hX]; exact heap_new _ _
  have BX : Hid (Below w.heap.size w X) := by show Below _ _ _; rw [hX]; exact below_new _ _
  have HX : Hid (X = _) := hX
  have HN : Hid (Now B nb bm X bs k N s rv ov) := h.below BX.out
  have hBX : Hid (B ≤ X.heap.size) := by show _ ≤ _; have := BX.out.size; omega
  have KX : Hid (Kq B [nb, bm] w X) := (Turned.ofBelow (L := []) BX.out).kq hB (by simp)
  have v0 : X.cell? ⟨w.heap.size, 0, none⟩ = some (.int .i64 kd) := (cell_heap gX 0).trans rfl
  have v1 : X.cell? ⟨w.heap.size, 1, none⟩ = some (.int .i64 pa) := (cell_heap gX 1).trans rfl
  have v2 : X.cell? ⟨w.heap.size, 2, none⟩ = some (.int .i64 pb) := (cell_heap gX 2).trans rfl
  have v3 : X.cell? ⟨w.heap.size, 3, none⟩ = some (.int .i64 pn) := (cell_heap gX 3).trans rfl
  have HC : Hid (s.code = 0) := hc
  clear hX gX h hc
  by_cases h1 : kd = 1
  · subst h1
    rw [insOk_1] at hp
    simp only [Bool.and_eq_true] at hp
    obtain ⟨na, hna, rfl⟩ := regOk_nat hp.1.1
    obtain ⟨nb', hnb, rfl⟩ := regOk_nat hp.1.2
    have CL : Hid (Calls Try.prog 165 #[.pointer (some ⟨nb, 0, none⟩), .agg #[.int .i64 1, .int .i64 na, .int .i64 nb', .int .i64 pn]] X fun e w' => (e = .returned (.tuple #[]) ∨ e = thrown 2) ∧ DoPost B nb bm bs k N s (1, (na : Int), (nb' : Int), pn) w e w') := by
      refine (loadC B nb bm bs k N s rv ov 1 pn na nb' X HN.out hBX.out hna hnb lx).mono ?_
      intro e w' h
      exact ⟨h.ends, (h.from KX.out).todo (by simp) HC.out (by simp [stepR])⟩
    clear hp hnum
    go_enter Try.func161, Try.ntmps161
    go_upto_region 2 with fail
    rw [← HX.out]
    go_wp2_with fail
    refine Calls.mono CL.out ?_
    rintro e w1 ⟨rfl | rfl, hd⟩
    · have F : Hid (DoPost B nb bm bs k N s (1, (na : Int), (nb' : Int), pn) w (.returned (.tuple #[])) w1) := hd
      clear hd
      go_wp2_with fail
      go_end0
      exact F.out
    · exact ⟨rfl, hd⟩
  by_cases h2 : kd = 2
  · subst h2
    rw [insOk_2] at hp
    simp only [Bool.and_eq_true] at hp
    obtain ⟨na, hna, rfl⟩ := regOk_nat hp.1.1
    obtain ⟨nb', hnb, rfl⟩ := regOk_nat hp.1.2
    have CL : Hid (Calls Try.prog 166 #[.pointer (some ⟨nb, 0, none⟩), .agg #[.int .i64 2, .int .i64 na, .int .i64 nb', .int .i64 pn]] X fun e w' => e = .returned (.tuple #[]) ∧ DoPost B nb bm bs k N s (2, (na : Int), (nb' : Int), pn) w e w') := by
      refine (putC B nb bm bs k N s rv ov 2 pn na nb' X HN.out hBX.out hna hnb ly hN (hnum nb' hnb)).mono ?_
      rintro e w' ⟨rfl, hk, hn⟩
      refine ⟨rfl, KX.out.trans hk, ?_⟩
      have es : stepR bs s (2, (na : Int), (nb' : Int), pn) = { s with puts := putP s.puts na (s.regs.getD nb' 0) } := by simp [stepR]
      rw [if_neg (by simp), es, if_pos HC.out]
      exact ⟨rfl, hn⟩
    clear hp hnum
    go_enter Try.func161, Try.ntmps161
    go_upto_region 2 with fail
    rw [← HX.out]
    go_wp2_with fail
    refine Calls.mono CL.out ?_
    rintro e w1 ⟨rfl, hd⟩
    have F : Hid (DoPost B nb bm bs k N s (2, (na : Int), (nb' : Int), pn) w (.returned (.tuple #[])) w1) := hd
    clear hd
    go_wp2_with fail
    go_end0
    exact F.out
  by_cases h3 : kd = 3
  · subst h3
    rw [insOk_3] at hp
    simp only [Bool.and_eq_true] at hp
    obtain ⟨na, hna, rfl⟩ := regOk_nat hp.1.1
    have CL : Hid (Calls Try.prog 167 #[.pointer (some ⟨nb, 0, none⟩), .int .i64 na, .int .i64 pn] X fun e w' => (e = .returned (.tuple #[]) ∨ e = thrown 2) ∧ DoPost B nb bm bs k N s (3, (na : Int), pb, pn) w e w') := by
      refine (nowSet B nb bm bs k N s rv ov na pn X HN.out hBX.out hna).mono ?_
      rintro e w' ⟨h, _⟩
      exact ⟨h.ends, (h.from KX.out).todo (by simp) HC.out (by simp [stepR])⟩
    clear hp hnum
    go_enter Try.func161, Try.ntmps161
    go_upto_region 2 with fail
    rw [← HX.out]
    go_wp2_with fail
    refine Calls.mono CL.out ?_
    rintro e w1 ⟨rfl | rfl, hd⟩
    · have F : Hid (DoPost B nb bm bs k N s (3, (na : Int), pb, pn) w (.returned (.tuple #[])) w1) := hd
      clear hd
      go_wp2_with fail
      go_end0
      exact F.out
    · exact ⟨rfl, hd⟩
  by_cases h4 : kd = 4
  · subst h4
    rw [insOk_4] at hp
    simp only [Bool.and_eq_true] at hp
    obtain ⟨na, hna, rfl⟩ := regOk_nat hp.1.1
    obtain ⟨nb', hnb, rfl⟩ := regOk_nat hp.1.2
    have CL : Hid (Calls Try.prog 168 #[.pointer (some ⟨nb, 0, none⟩), .agg #[.int .i64 4, .int .i64 na, .int .i64 nb', .int .i64 pn], .int .i64 1] X fun e w' => (e = .returned (.tuple #[]) ∨ e = thrown 2) ∧ DoPost B nb bm bs k N s (4, (na : Int), (nb' : Int), pn) w e w') := by
      refine (addC B nb bm bs k N s rv ov 4 pn 1 na nb' X HN.out hBX.out hna hnb (.inl rfl) hnum).mono ?_
      intro e w' h
      exact ⟨h.ends, (h.from KX.out).todo (by simp) HC.out (by simp [stepR])⟩
    clear hp hnum
    go_enter Try.func161, Try.ntmps161
    go_upto_region 2 with fail
    rw [← HX.out]
    go_wp2_with fail
    refine Calls.mono CL.out ?_
    rintro e w1 ⟨rfl | rfl, hd⟩
    · have F : Hid (DoPost B nb bm bs k N s (4, (na : Int), (nb' : Int), pn) w (.returned (.tuple #[])) w1) := hd
      clear hd
      go_wp2_with fail
      go_end0
      exact F.out
    · exact ⟨rfl, hd⟩
  by_cases h5 : kd = 5
  · subst h5
    rw [insOk_5] at hp
    simp only [Bool.and_eq_true] at hp
    obtain ⟨na, hna, rfl⟩ := regOk_nat hp.1.1
    obtain ⟨nb', hnb, rfl⟩ := regOk_nat hp.1.2
    have CL : Hid (Calls Try.prog 168 #[.pointer (some ⟨nb, 0, none⟩), .agg #[.int .i64 5, .int .i64 na, .int .i64 nb', .int .i64 pn], .int .i64 (-1)] X fun e w' => (e = .returned (.tuple #[]) ∨ e = thrown 2) ∧ DoPost B nb bm bs k N s (5, (na : Int), (nb' : Int), pn) w e w') := by
      refine (addC B nb bm bs k N s rv ov 5 pn (-1) na nb' X HN.out hBX.out hna hnb (.inr rfl) hnum).mono ?_
      intro e w' h
      have ez : s.regs.getD na 0 + -1 * s.regs.getD nb' 0 = s.regs.getD na 0 - s.regs.getD nb' 0 := by omega
      rw [ez] at h
      exact ⟨h.ends, (h.from KX.out).todo (by simp) HC.out (by simp [stepR])⟩
    clear hp hnum
    go_enter Try.func161, Try.ntmps161
    go_upto_region 2 with fail
    rw [← HX.out]
    go_wp2_with fail
    refine Calls.mono CL.out ?_
    rintro e w1 ⟨rfl | rfl, hd⟩
    · have F : Hid (DoPost B nb bm bs k N s (5, (na : Int), (nb' : Int), pn) w (.returned (.tuple #[])) w1) := hd
      clear hd
      go_wp2_with fail
      go_end0
      exact F.out
    · exact ⟨rfl, hd⟩
  by_cases h6 : kd = 6
  · subst h6
    rw [insOk_6] at hp
    simp only [Bool.and_eq_true] at hp
    obtain ⟨na, hna, rfl⟩ := regOk_nat hp.1.1
    obtain ⟨nb', hnb, rfl⟩ := regOk_nat hp.1.2
    have hn := hp.2
    simp only [lessOk, Bool.and_eq_true, decide_eq_true_eq] at hn
    obtain ⟨n, hn1, hn2⟩ : ∃ n : Nat, pn = (n : Int) ∧ n ≤ 10 := ⟨pn.toNat, by omega, by omega⟩
    subst hn1
    have CL : Hid (Calls Try.prog 169 #[.pointer (some ⟨nb, 0, none⟩), .agg #[.int .i64 6, .int .i64 na, .int .i64 nb', .int .i64 n]] X fun e w' => e = .returned (.tuple #[]) ∧ DoPost B nb bm bs k N s (6, (na : Int), (nb' : Int), (n : Int)) w e w') := by
      refine (lessC B nb bm bs k N s rv ov na nb' n X HN.out hBX.out hna hnb hn2 hk).mono ?_
      rintro e w' ⟨rfl, hk, rv', ov', hn⟩
      refine ⟨rfl, KX.out.trans hk, ?_⟩
      rw [if_pos rfl]
      exact ⟨rfl, rv', ov', by simpa using hn.mono (by omega)⟩
    clear hp hnum hn
    go_enter Try.func161, Try.ntmps161
    go_upto_region 2 with fail
    rw [← HX.out]
    go_wp2_with fail
    refine Calls.mono CL.out ?_
    rintro e w1 ⟨rfl, hd⟩
    have F : Hid (DoPost B nb bm bs k N s (6, (na : Int), (nb' : Int), (n : Int)) w (.returned (.tuple #[])) w1) := hd
    clear hd
    go_wp2_with fail
    go_end0
    exact F.out
  by_cases h7 : kd = 7
  · subst h7
    have CL : Hid (Calls Try.prog 170 #[.pointer (some ⟨nb, 0, none⟩)] X fun e w' => e = thrown 1 ∧ DoPost B nb bm bs k N s (7, pa, pb, pn) w e w') := by
      refine (failC _ X).mono ?_
      rintro e w' ⟨rfl, rfl⟩
      refine ⟨rfl, KX.out, ?_⟩
      have es : stepR bs s (7, pa, pb, pn) = { s with code := 1 } := by simp [stepR]
      rw [if_neg (by simp), es, if_neg (by simp)]
      exact ⟨rfl, HN.out.left⟩
    clear hp hnum
    go_enter Try.func161, Try.ntmps161
    go_upto_region 2 with fail
    rw [← HX.out]
    go_wp2_with fail
    refine Calls.mono CL.out ?_
    rintro e w1 ⟨rfl, hd⟩
    exact ⟨rfl, hd⟩
  rw [insOk_no pa pb pn ⟨h1, h2, h3, h4, h5, h6, h7⟩] at hp
  cases hp
end Go.Proofs.Ytgcencilgpilaaa.Own

namespace Go.Proofs.Ytgcencilgpilaaa.Own
open Go.RowKit
set_option linter.unusedVariables false
set_option linter.unusedSimpArgs false

/-- The instruction that is next, as it lies in memory. -/
def atIn (nb : Nat) (w : World) : Nat := (intOf ((w.cell? ⟨nb, 12, none⟩).getD undef)).toNat
theorem atIn_of {nb k : Nat} {w : World} (h : w.cell? ⟨nb, 12, none⟩ = some (.int .i64 (k : Int))) : atIn nb w = k := by
  unfold atIn; rw [h]; simp [intOf]

def AllPost (B nb bm : Nat) (bs : List P2) (xs : List Q4) (w : World) (e : Ending) (w' : World) : Prop :=
  Kq B [nb, bm] w w' ∧ (((runR bs xs 0 initR).code = 0 ∧ e = .returned (.tuple #[]) ∧ ∃ k N, NowE B nb bm w' bs k N (runR bs xs 0 initR)) ∨ (¬ (runR bs xs 0 initR).code = 0 ∧ e = thrown (runR bs xs 0 initR).code ∧ Left B nb w' (runR bs xs 0 initR).reads))

set_option maxRecDepth 100000 in
set_option maxHeartbeats 4000000 in
theorem doAllC (B nb bm : Nat) (bs : List P2) (xs : List Q4) (pa : Option Addr) (pc : Nat) (rv ov : Value) (w : World) (h : Now B nb bm w bs 0 0 initR rv ov) (hB : B ≤ w.heap.size) (hb : boxOk bs = true) (hp : progOk xs = true) (n₀ : Nat) (hx : Sl4b n₀ w pa xs) (hn : n₀ ≤ nb ∧ n₀ ≤ bm) :
    Calls Try.prog 145 #[.pointer (some ⟨nb, 0, none⟩), .slice pa xs.length pc] w fun e w' => AllPost B nb bm bs xs w e w' := by
  have HN : Hid (Now B nb bm w bs 0 0 initR rv ov) := h
  have SX : Hid (Sl4b n₀ w pa xs) := hx
  have hltB := h.lt
  have HPO : Hid (progOk xs = true) := hp
  have l10 : xs.length ≤ 10 := by simp only [progOk, Bool.and_eq_true, decide_eq_true_eq] at hp; exact hp.1
  have nx := h.next
  clear h hx hp
  go_enter Try.func145, Try.ntmps145
  go_wp2_with fail
  go_loopw [4] (fun p wr => ∃ (k N : Nat) (s : RunSt) (rv ov : Value), Hid (Now B nb bm wr bs k N s rv ov) ∧ Hid (N ≤ k) ∧ Hid (runR bs xs k s = runR bs xs 0 initR) ∧ Hid (Inv bs xs s) ∧ Hid (s.code = 0) ∧ Hid (Kq B [nb, bm] w wr) ∧ Hid (k ≤ 30)) (fun _ wr => xs.length - atIn nb wr)
  case atStart => exact ⟨0, 0, initR, rv, ov, HN, Nat.le_refl _, rfl, Inv.init _ _, rfl, Kq.refl _ _ _, Nat.zero_le _⟩
  case round =>
    obtain ⟨k, N, s, rv', ov', HNr, HNk, ERk, IV, HC, KX, K30⟩ := hrel
    have nk := HNr.out.next
    have fr := HNr.out.free 12
    have hk30 : k ≤ 30 := K30.out
    have hsw : B ≤ wr.heap.size := by have := KX.out.size; omega
    clear nx
    by_cases hlt : k < xs.length
    · rcases SX.out with h | ⟨pb, po, rfl, hpb, h1⟩
      · subst h; simp at hlt
      have p1 : pb < B := by omega
      have p2 : pb ≠ nb := by omega
      have p3 : pb ≠ bm := by omega
      have AX : Hid (At4 wr pb po xs) := h1.kq KX.out p1 (by simp; exact ⟨p2, p3⟩)
      obtain ⟨ca, cb, cc, cd⟩ := AX.out.2 k hlt
      clear h1
      obtain ⟨p, hp⟩ : ∃ p, p = xs.getD k q0 := ⟨_, rfl⟩
      have HP : Hid (p = xs.getD k q0) := hp
      rw [← hp] at ca cb cc cd
      have HOK : Hid (insOk p = true) := by show _ = _; rw [hp]; exact progOk_ins HPO.out _ (getD_mem hlt)
      have HM : Hid (p ∈ xs) := by show _ ∈ _; rw [hp]; exact getD_mem hlt
      clear hp
      obtain ⟨kd, qa, qb, qn⟩ := p
      dsimp only at ca cb cc cd
      have hki : (k : Int) < (xs.length : Int) := by omega
      obtain ⟨V, hV⟩ : ∃ V, V = wr.alloc (.cells #[.int .i64 kd, .int .i64 qa, .int .i64 qb, .int .i64 qn] 156) := ⟨_, rfl⟩
      have gV : V.heap[wr.heap.size]? = some (.cells #[.int .i64 kd, .int .i64 qa, .int .i64 qb, .int .i64 qn] 156 (0, 0)) := by rw [hV]; exact heap_new _ _
      have BV : Hid (Below wr.heap.size wr V) := by show Below _ _ _; rw [hV]; exact below_new _ _
      have HSV : Hid (V.heap.size = wr.heap.size + 1) := by show _ = _; rw [hV]; simp
      have HV : Hid (V = _) := hV
      have HNV : Hid (Now B nb bm V bs k N s rv' ov') := HNr.out.below BV.out
      have hlt3 := HNr.out.lt
      have hnbr : nb < wr.heap.size := HNr.out.boxes.1
      go_upto_region 2 with fail
      rw [← HV.out]
      have nkV : V.cell? ⟨nb, 12, none⟩ = some (.int .i64 k) := HNV.out.next
      have frV := HNV.out.free 12
      have wk : IntKind.i64.wrap ((k : Int) + 1) = (k : Int) + 1 := by rw [IntKind.wrap_i64]; omega
      clear ca cb cc cd nk fr hV
      go_upto_region 3 with fail
      obtain ⟨Z, hZ⟩ : ∃ Z, Z = V.setCell ⟨nb, 12, none⟩ (.int .i64 ((k + 1 : Nat) : Int)) := ⟨_, rfl⟩
      have HNZ : Hid (Now B nb bm Z bs (k + 1) N s rv' ov') := by show Now _ _ _ _ _ _ _ _ _ _; rw [hZ]; exact HNV.out.step (k + 1)
      have gZ : Z.heap[wr.heap.size]? = some (.cells #[.int .i64 kd, .int .i64 qa, .int .i64 qb, .int .i64 qn] 156 (0, 0)) := by rw [hZ, Below.heap_setCell _ _ _ _ (by show wr.heap.size ≠ nb; omega)]; exact gV
      have z0 : Z.cell? ⟨wr.heap.size, 0, none⟩ = some (.int .i64 kd) := (cell_heap gZ 0).trans rfl
      have z1 : Z.cell? ⟨wr.heap.size, 1, none⟩ = some (.int .i64 qa) := (cell_heap gZ 1).trans rfl
      have z2 : Z.cell? ⟨wr.heap.size, 2, none⟩ = some (.int .i64 qb) := (cell_heap gZ 2).trans rfl
      have z3 : Z.cell? ⟨wr.heap.size, 3, none⟩ = some (.int .i64 qn) := (cell_heap gZ 3).trans rfl
      have hsZ : B ≤ Z.heap.size := by rw [hZ]; have : (V.setCell ⟨nb, 12, none⟩ (.int .i64 ((k + 1 : Nat) : Int))).heap.size = V.heap.size := by simp [World.setCell]
                                       rw [this]; have := HSV.out; omega
      have KZ : Hid (Kq B [nb, bm] w Z) := by
        show Kq _ _ _ _
        rw [hZ]
        exact KX.out.trans (((Turned.ofBelow (L := []) BV.out).kq hsw (by simp)).trans (Turned.kq (L' := [nb]) ((Turned.refl _ _).set (by simp) _) (by have := HSV.out; omega) (by simp)))
      have eZ : V.setCell ⟨nb, 12, none⟩ (.int .i64 ((k : Int) + 1)) = Z := by rw [hZ]; simp
      rw [eZ]
      clear hZ eZ gV gZ nkV frV
      have DO : Hid (Calls Try.prog 161 #[.pointer (some ⟨nb, 0, none⟩), .agg #[.int .i64 kd, .int .i64 qa, .int .i64 qb, .int .i64 qn]] Z fun e w' => DoPost B nb bm bs (k + 1) N s (kd, qa, qb, qn) Z e w') := by
        have f4 := reads_few IV.out
        have p4 := puts_few IV.out
        have b1 := boxesTo_len loadsQ xs 4
        have b2 := boxesTo_len putsQ xs 4
        have n1 := HNk.out
        exact doC B nb bm bs (k + 1) N s rv' ov' (kd, qa, qb, qn) Z HNZ.out hsZ HOK.out HC.out (IV.out.num HC.out) (by omega) (by omega) (by omega) (by omega)
      have hz := HNk.out
      go_wp2_with fail
      refine Calls.mono DO.out ?_
      intro e w3 hd
      obtain ⟨K3, hd⟩ := hd
      have K3' : Hid (Kq B [nb, bm] w w3) := KZ.out.trans K3
      clear z0 z1 z2 z3 K3
      by_cases h6 : kd = 6
      · subst h6
        rw [if_pos rfl] at hd
        obtain ⟨rfl, rv3, ov3, hn3⟩ := hd
        have ok := HOK.out
        rw [insOk_6] at ok
        simp only [Bool.and_eq_true] at ok
        have hn := ok.2
        simp only [lessOk, Bool.and_eq_true, decide_eq_true_eq] at hn
        obtain ⟨k3, hk3⟩ : ∃ k3 : Nat, k3 = (if s.regs.getD qa.toNat 0 < s.regs.getD qb.toNat 0 then k + 1 + qn.toNat else k + 1) := ⟨_, rfl⟩
        have hk3' : k + 1 ≤ k3 ∧ k3 ≤ k + 11 := by rw [hk3]; split <;> omega
        have E3 : Hid (runR bs xs k3 s = runR bs xs 0 initR) := by
          show _ = _
          rw [← ERk.out]
          by_cases hl : s.regs.getD qa.toNat 0 < s.regs.getD qb.toNat 0
          · rw [if_pos hl] at hk3
            have e := run_jump (bs := bs) (xs := xs) (k := k) (s := s) hlt HC.out (by rw [← HP.out]) (by rw [← HP.out]; exact hl)
            rw [← HP.out] at e
            rw [e, hk3]
            congr 1
            show k + 1 + qn.toNat = k + qn.toNat + 1
            omega
          · rw [if_neg hl] at hk3
            rw [hk3]
            exact (run_go (bs := bs) (xs := xs) (k := k) (s := s) hlt HC.out (by rw [← HP.out]) (by rw [← HP.out]; exact hl)).symm
        have HN3 : Hid (Now B nb bm w3 bs k3 (N + 1) s rv3 ov3) := by show Now _ _ _ _ _ _ _ _ _ _; rw [hk3]; exact hn3
        have AT3 : Hid (atIn nb w3 = k3) := atIn_of HN3.out.next
        have ATr : Hid (atIn nb wr = k) := atIn_of HNr.out.next
        clear hn3 hk3 ok hn
        go_wp2_with fail
        go_roundw
        case rel => exact ⟨k3, N + 1, s, rv3, ov3, HN3, by show _ ≤ _; omega, E3, IV, HC, K3', by show _ ≤ _; omega⟩
        case measure => rw [AT3.out, ATr.out]; omega
      · have E3 : Hid (runR bs xs (k + 1) (stepR bs s (kd, qa, qb, qn)) = runR bs xs 0 initR) := by
          show _ = _
          rw [← ERk.out, run_step (bs := bs) (xs := xs) (k := k) (s := s) hlt HC.out (by rw [← HP.out]; exact h6), ← HP.out]
        have I3 : Hid (Inv bs xs (stepR bs s (kd, qa, qb, qn))) := IV.out.step HC.out _ HOK.out HM.out h6
        rw [if_neg h6] at hd
        generalize stepR bs s (kd, qa, qb, qn) = s3 at hd E3 I3
        by_cases hc3 : s3.code = 0
        · rw [if_pos hc3] at hd
          obtain ⟨rfl, rv3, ov3, hn3⟩ := hd
          have HC3 : Hid (s3.code = 0) := hc3
          have HN3 : Hid (Now B nb bm w3 bs (k + 1) (N + 1) s3 rv3 ov3) := hn3
          have AT3 : Hid (atIn nb w3 = k + 1) := atIn_of HN3.out.next
          have ATr : Hid (atIn nb wr = k) := atIn_of HNr.out.next
          clear hn3 hc3
          go_wp2_with fail
          go_roundw
          case rel => exact ⟨k + 1, N + 1, s3, rv3, ov3, HN3, by show _ ≤ _; omega, E3, I3, HC3, K3', by show _ ≤ _; omega⟩
          case measure => rw [AT3.out, ATr.out]; omega
        · rw [if_neg hc3] at hd
          obtain ⟨rfl, hl⟩ := hd
          have es : runR bs xs 0 initR = s3 := by rw [← E3.out, run_stop hc3]
          refine ⟨rfl, K3'.out, .inr ?_⟩
          rw [es]
          exact ⟨hc3, rfl, hl⟩
    · have hki : ¬ (k : Int) < (xs.length : Int) := by omega
      have es : runR bs xs 0 initR = s := by rw [← ERk.out, run_end hlt]
      have F : Hid (AllPost B nb bm bs xs w (.returned (.tuple #[])) wr) := ⟨KX.out, .inl (by rw [es]; exact ⟨HC.out, rfl, k, N, rv', ov', HNr.out⟩)⟩
      clear es
      go_wp2_with fail
      go_end0
      exact F.out
end Go.Proofs.Ytgcencilgpilaaa.Own
