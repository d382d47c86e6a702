/-
  Own texts, bundled: Cells4, ExecFreshI, DoMath, RunFacts2, OwnBox, Own2, Bar, Grow, L3Look.
-/
import Derived.Test.YtiibonnchmphcaaPk1
import Derived.Test.YtiibonnchmphcaaPk2
import Derived.BigQuiet
import Derived.Deep.QuietTactic
import Derived.Deep.Cut
import Derived.Deep.CutRange
import Derived.OwnWalk
import Derived.Maps.AppendAt
import Derived.Deep.RegionLaw
import Derived.Deep.AppendLies
import Derived.StillTactics
import Derived.Laws.Pointers
namespace Go.Proofs.Ytiibonnchmphcaa.Own
open Go.RowKit

def C4 (w : World) (b : Nat) (x0 x1 x2 x3 : Value) : Prop := b < w.heap.size ∧ w.cell? ⟨b, 0, none⟩ = some x0 ∧ w.cell? ⟨b, 1, none⟩ = some x1 ∧ w.cell? ⟨b, 2, none⟩ = some x2 ∧ w.cell? ⟨b, 3, none⟩ = some x3
theorem C4.below {w w' : World} {b : Nat} {x0 x1 x2 x3 : Value} (h : C4 w b x0 x1 x2 x3) (hb : Below w.heap.size w w') : C4 w' b x0 x1 x2 x3 := by
  have e : ∀ o, w'.cell? ⟨b, o, none⟩ = w.cell? ⟨b, o, none⟩ := fun o => hb.cell (p := ⟨b, o, none⟩) h.1
  refine ⟨Nat.lt_of_lt_of_le h.1 hb.size, ?_⟩
  rw [e, e, e, e]; exact h.2
theorem C4.new (w : World) (x0 x1 x2 x3 : Value) (t : TypeId) : C4 (w.alloc (.cells #[x0, x1, x2, x3] t)) w.heap.size x0 x1 x2 x3 := by
  refine ⟨by rw [size_new]; omega, ?_⟩
  rw [cell_heap (heap_new _ _), cell_heap (heap_new _ _), cell_heap (heap_new _ _), cell_heap (heap_new _ _)]
  exact ⟨rfl, rfl, rfl, rfl⟩
theorem C4.alloc {w : World} {b : Nat} {x0 x1 x2 x3 : Value} (h : C4 w b x0 x1 x2 x3) (o : Obj) : C4 (w.alloc o) b x0 x1 x2 x3 := h.below ((Below.refl _ _).alloc (Nat.le_refl _) _)
/-- What lay below a mark, and the block at it. -/
theorem below_new (w : World) (o : Obj) : Below w.heap.size w (w.alloc o) := (Below.refl _ _).alloc (Nat.le_refl _) _
end Go.Proofs.Ytiibonnchmphcaa.Own

namespace Go.Proofs.Ytiibonnchmphcaa.Own
open Go.RowKit
set_option linter.unusedVariables false
set_option linter.unusedSimpArgs false

def freshAt (bs : List P2) (p : P2) : Bool := (bs.getD p.1.toNat (0, 0)).1 == p.2
/-- Boxes are as a run saw them. -/
def execFresh (bs xs ys : List P2) (v k : Int) : Bool := boxOk bs && execOk xs ys v k && xs.all (freshAt bs)

theorem execOk_reads {xs ys : List P2} {v k : Int} (h : execOk xs ys v k = true) : okAll verOk xs = true := by
  simp only [execOk, Bool.and_eq_true] at h
  exact h.1.2
theorem execOk_puts {xs ys : List P2} {v k : Int} (h : execOk xs ys v k = true) : okAll numOk ys = true := by
  simp only [execOk, Bool.and_eq_true] at h
  exact h.2
theorem okAll_box {f : Int → Bool} {xs : List P2} (h : okAll f xs = true) (i : Nat) (hi : i < xs.length) : ∃ j : Nat, j < 4 ∧ (xs.getD i (0, 0)).1 = j := by
  have := okAll_iff.1 h i hi
  simp only [okAt, Bool.and_eq_true] at this
  exact regOk_nat this.1.1
theorem boxOk_len {bs : List P2} (h : boxOk bs = true) : bs.length = 4 := by
  simp only [boxOk, Bool.and_eq_true, beq_iff_eq] at h
  exact h.1

set_option maxRecDepth 100000 in
set_option maxHeartbeats 2000000 in
theorem implExecFresh (a : Option Addr) (c : Nat) (bs : List P2) (a1 a2 : Option Addr) (c1 c2 : Nat) (xs ys : List P2) (v k : Int) (w : World) (h0 : Sl w a bs) (hc : bs.length ≤ c) (h1 : Sl w a1 xs) (h2 : Sl w a2 ys) (hn1 : xs.length ≤ 2 ^ 40) (hn2 : ys.length ≤ 2 ^ 40) :
    Calls Try.prog 24 #[.slice a bs.length c, .agg #[.slice a1 xs.length c1, .slice a2 ys.length c2, .int .i64 v, .int .i64 k]] w fun e w' => e = .returned (.bool (execFresh bs xs ys v k)) ∧ Below w.heap.size w w' := by
  have H0 : Hid (Sl w a bs) := h0
  have H1 : Hid (Sl w a1 xs) := h1
  have H2 : Hid (Sl w a2 ys) := h2
  clear h0 h1 h2
  have E : Hid (execFresh bs xs ys v k = (boxOk bs && execOk xs ys v k && xs.all (freshAt bs))) := rfl
  obtain ⟨W, hW⟩ : ∃ W, W = w.alloc (.cells #[.slice a1 xs.length c1, .slice a2 ys.length c2, .int .i64 v, .int .i64 k] 30) := ⟨_, rfl⟩
  have BW : Hid (Below w.heap.size w W) := by show Below _ _ _; rw [hW]; exact below_new _ _
  have P0 : Hid (C4 W w.heap.size (.slice a1 xs.length c1) (.slice a2 ys.length c2) (.int .i64 v) (.int .i64 k)) := by show C4 _ _ _ _ _ _; rw [hW]; exact C4.new _ _ _ _ _ _
  have HW : Hid (W = _) := hW
  clear hW
  have CB := implOk a c bs W (H0.out.below BW.out) hc
  cases hb : boxOk bs with
  | false =>
    rw [hb] at CB
    have CB' : Hid _ := CB
    clear CB
    go_enter Try.func24, Try.ntmps24
    go_wp2_with fail
    rw [← HW.out]
    refine Calls.mono CB'.out ?_
    rintro e w1 ⟨rfl, b1⟩
    have B1 : Hid (Below w.heap.size w w1) := BW.out.trans (b1.mono BW.out.size)
    clear b1
    go_wp2_with fail
    go_ret
    exact ⟨ret_bool (by rw [E.out, hb]; rfl), B1.out⟩
  | true =>
    rw [hb] at CB
    have CB' : Hid _ := CB
    have HL : Hid (bs.length = 4) := boxOk_len hb
    have HBO : Hid (boxOk bs = true) := hb
    clear CB hb
    go_enter Try.func24, Try.ntmps24
    go_wp2_with fail
    rw [← HW.out]
    refine Calls.mono CB'.out ?_
    rintro e w1 ⟨rfl, b1⟩
    have B1 : Hid (Below W.heap.size W w1) := b1
    clear b1
    obtain ⟨_, q0, q1, q2, q3⟩ := P0.out.below B1.out
    have CE := implExecOk a1 a2 c1 c2 xs ys v k w1 ((H1.out.below BW.out).below B1.out) ((H2.out.below BW.out).below B1.out) hn1 hn2
    cases he : execOk xs ys v k with
    | false =>
      rw [he] at CE
      have CE' : Hid _ := CE
      clear CE
      go_wp2_with fail
      refine Calls.mono CE'.out ?_
      rintro e w2 ⟨rfl, b2⟩
      have B2 : Hid (Below w.heap.size w w2) := BW.out.trans ((B1.out.trans (b2.mono B1.out.size)).mono BW.out.size)
      clear b2
      go_wp2_with fail
      go_ret
      exact ⟨ret_bool (by rw [E.out, he]; simp), B2.out⟩
    | true =>
      rw [he] at CE
      have CE' : Hid _ := CE
      have E2 : Hid (execFresh bs xs ys v k = xs.all (freshAt bs)) := by show _ = _; rw [E.out, he, HBO.out]; rfl
      have HR : Hid (okAll verOk xs = true) := execOk_reads he
      clear CE he
      go_wp2_with fail
      refine Calls.mono CE'.out ?_
      rintro e w2 ⟨rfl, b2⟩
      have B2 : Hid (Below W.heap.size W w2) := B1.out.trans (b2.mono B1.out.size)
      clear b2 q0 q1 q2 q3
      obtain ⟨_, q0, _, _, _⟩ := P0.out.below B2.out
      go_wp2_with fail
      go_loopw [18] (fun i wr => ∃ j : Nat, j ≤ xs.length ∧ i = .int .i64 j ∧ Hid ((xs.take j).all (freshAt bs) = true) ∧ Below W.heap.size W wr) (fun i _ => xs.length - (intOf i).toNat)
      case atStart => exact ⟨0, Nat.zero_le _, rfl, rfl, B2.out⟩
      case round =>
        clear q0
        obtain ⟨j, hj, rfl, hA, hB⟩ := hrel
        have HB : Hid (Below W.heap.size W wr) := hB
        by_cases hlt : j < xs.length
        · rcases H1.out with h | ⟨b1, o1, rfl, h1⟩
          · subst h; simp at hlt
          have H1' : Hid (BoxAt wr b1 o1 xs) := (h1.below BW.out).below hB
          rcases H0.out with h | ⟨b0, o0, rfl, h0⟩
          · have := HL.out; subst h; simp at this
          have H0' : Hid (BoxAt wr b0 o0 bs) := (h0.below BW.out).below hB
          clear h1 h0 hB
          obtain ⟨p, hp⟩ : ∃ p, p = xs.getD j (0, 0) := ⟨_, rfl⟩
          obtain ⟨ca, cb⟩ := H1'.out.2 j hlt
          rw [← hp] at ca cb
          have HP : Hid (p = xs.getD j (0, 0)) := hp
          clear hp
          obtain ⟨p1, p2⟩ := p
          obtain ⟨m, hm, hm1⟩ := okAll_box HR.out j hlt
          rw [← HP.out] at hm1
          have hm2 : p1 = (m : Int) := hm1
          clear hm1
          subst hm2
          obtain ⟨x, hx⟩ : ∃ x, x = (bs.getD m (0, 0)).1 := ⟨_, rfl⟩
          have cx := (H0'.out.2 m (by rw [HL.out]; exact hm)).1
          rw [← hx] at cx
          have HF : Hid (freshAt bs (xs.getD j (0, 0)) = (x == p2)) := by show _ = _; rw [← HP.out, hx]; simp [freshAt]
          clear hx
          obtain ⟨X, hX⟩ : ∃ X, X = wr.alloc (.cells #[.int .i64 (m : Int), .int .i64 p2] 38) := ⟨_, rfl⟩
          have BX : Hid (Below W.heap.size W X) := by show Below _ _ _; rw [hX]; exact HB.out.alloc HB.out.size _
          have y0 : X.cell? ⟨wr.heap.size, 0, none⟩ = some (.int .i64 (m : Int)) := by rw [hX, cell_heap (heap_new _ _)]; rfl
          have y1 : X.cell? ⟨wr.heap.size, 1, none⟩ = some (.int .i64 p2) := by rw [hX, cell_heap (heap_new _ _)]; rfl
          have yx : X.cell? ⟨b0, o0 + m * 2, none⟩ = some (.int .i64 x) := by rw [hX, (below_new wr _).cell (p := ⟨b0, o0 + m * 2, none⟩) H0'.out.1]; exact cx
          have HX : Hid (X = _) := hX
          have hml : (m : Int) < (bs.length : Int) := by have := HL.out; omega
          clear hX cx
          go_upto_region 6 with fail
          rw [← HX.out]
          clear ca cb
          cases t : (x == p2) with
          | true =>
            have N : Hid ((xs.take (j + 1)).all (freshAt bs) = true) := by show _ = _; rw [all_take_succ (0, 0) hlt, hA.out, HF.out, t]; rfl
            have t' : (x != p2) = false := by simp [bne, t]
            go_quiet (fail)
            go_wp2
            go_roundw
            case rel => exact ⟨j + 1, by omega, by go_num, N, below_drewN BX.out _⟩
            case measure => simp [intOf]; omega
          | false =>
            have F : Hid (xs.all (freshAt bs) = false) := all_false (0, 0) hlt (by rw [HF.out]; exact t)
            have t' : (x != p2) = true := by simp [bne, t]
            go_quiet (fail)
            go_wp2
            go_ret
            exact ⟨ret_bool (by rw [E2.out]; exact F.out.symm), below_drewN (BW.out.trans (BX.out.mono BW.out.size)) _⟩
        · have h1 : j = xs.length := by omega
          have h2 := hA.out
          subst h1
          rw [List.take_length] at h2
          have HA : Hid (xs.all (freshAt bs) = true) := h2
          clear h2 hA hB
          go_wp2_with fail
          go_ret
          exact ⟨ret_bool (by rw [E2.out]; exact HA.out.symm), BW.out.trans (HB.out.mono BW.out.size)⟩
end Go.Proofs.Ytiibonnchmphcaa.Own

namespace Go.Proofs.Ytiibonnchmphcaa.Own
open Go.RowKit
set_option linter.unusedVariables false

theorem getD_set2 (xs : List P2) (i j : Nat) (v : P2) (hi : i < xs.length) : (xs.set i v).getD j (0, 0) = if i = j then v else xs.getD j (0, 0) := by
  simp only [List.getD_eq_getElem?_getD, List.getElem?_set]
  by_cases e : i = j
  · simp [e, show j < xs.length by omega]
  · simp [e]

/-- A put, done to boxes. -/
def put1 (bs : List P2) (p : P2) : List P2 := bs.set p.1.toNat (min 1000000 ((bs.getD p.1.toNat (0, 0)).1 + 1), p.2)
def doPuts (bs ys : List P2) : List P2 := ys.foldl put1 bs
def execDo (bs xs ys : List P2) (v k : Int) : List P2 := if boxOk bs && execOk xs ys v k then doPuts bs ys else []

theorem put1_length (bs : List P2) (p : P2) : (put1 bs p).length = bs.length := by simp [put1]
theorem doPuts_length (bs ys : List P2) : (doPuts bs ys).length = bs.length := by
  unfold doPuts
  induction ys generalizing bs with
  | nil => rfl
  | cons y r ih => rw [List.foldl_cons, ih, put1_length]
theorem doPuts_succ (bs ys : List P2) (j : Nat) (h : j < ys.length) : doPuts bs (ys.take (j + 1)) = put1 (doPuts bs (ys.take j)) (ys.getD j (0, 0)) := by
  unfold doPuts
  rw [List.take_succ_eq_append_getElem h, List.foldl_append]
  simp [List.getD, h]

theorem boxOk_iff {bs : List P2} : boxOk bs = true ↔ bs.length = 4 ∧ ∀ i, i < bs.length → boxOk1 (bs.getD i (0, 0)) = true := by
  simp only [boxOk, Bool.and_eq_true, beq_iff_eq, List.all_eq_true]
  constructor
  · rintro ⟨h, h2⟩
    exact ⟨h, fun i hi => h2 _ (by simp [List.getD, hi])⟩
  · rintro ⟨h, h2⟩
    refine ⟨h, fun x hx => ?_⟩
    obtain ⟨i, hi, rfl⟩ := List.getElem_of_mem hx
    simpa [List.getD, hi] using h2 i hi

theorem put1_ok {bs : List P2} {p : P2} (h : boxOk bs = true) (m : Nat) (hm : m < 4) (hp : p.1 = m) (hv : numOk p.2 = true) : boxOk (put1 bs p) = true := by
  have h' := boxOk_iff.1 h
  rw [boxOk_iff]
  refine ⟨by rw [put1_length]; exact h'.1, fun i hi => ?_⟩
  rw [put1_length] at hi
  have e : p.1.toNat = m := by omega
  unfold put1
  rw [e, getD_set2 _ _ _ _ (by omega)]
  by_cases e2 : m = i
  · rw [if_pos e2]
    have := h'.2 m (by omega)
    simp only [boxOk1, Bool.and_eq_true, decide_eq_true_eq] at this ⊢
    exact ⟨⟨by omega, by omega⟩, hv⟩
  · rw [if_neg e2]; exact h'.2 i hi
theorem doPuts_ok {bs ys : List P2} (h : boxOk bs = true) (hy : okAll numOk ys = true) : ∀ j, j ≤ ys.length → boxOk (doPuts bs (ys.take j)) = true
  | 0, _ => by simpa [doPuts] using h
  | j + 1, hj => by
    rw [doPuts_succ _ _ _ (by omega)]
    obtain ⟨m, hm, hp⟩ := okAll_box hy j (by omega)
    have := okAll_iff.1 hy j (by omega)
    simp only [okAt, Bool.and_eq_true] at this
    exact put1_ok (doPuts_ok h hy j (by omega)) m hm hp this.1.2
theorem boxOk_ver {bs : List P2} (h : boxOk bs = true) (i : Nat) (hi : i < 4) : 0 ≤ (bs.getD i (0, 0)).1 ∧ (bs.getD i (0, 0)).1 ≤ 1000000 := by
  have h' := boxOk_iff.1 h
  have := h'.2 i (by omega)
  simp only [boxOk1, Bool.and_eq_true, decide_eq_true_eq] at this
  exact this.1

theorem BoxAt.setBoth {w : World} {b off : Nat} {xs : List P2} (h : BoxAt w b off xs) (i : Nat) (hi : i < xs.length) (p q : Int) : BoxAt ((w.setCell ⟨b, off + i * 2, none⟩ (.int .i64 p)).setCell ⟨b, off + i * 2 + 1, none⟩ (.int .i64 q)) b off (xs.set i (p, q)) := by
  refine ⟨by simpa [World.setCell] using h.1, fun j hj => ?_⟩
  rw [List.length_set] at hj
  rw [getD_set2 _ _ _ _ hi]
  by_cases e : i = j
  · subst e
    rw [if_pos rfl]
    exact ⟨by rw [setCell_cell_other _ _ _ _ _ (by omega)]; exact setCell_cell_same _ _ _ _ _ (h.2 i hi).1, setCell_cell_same _ _ _ _ _ (by rw [setCell_cell_other _ _ _ _ _ (by omega)]; exact (h.2 i hi).2)⟩
  · rw [if_neg e, setCell_cell_other _ _ _ _ _ (by omega), setCell_cell_other _ _ _ _ _ (by omega), setCell_cell_other _ _ _ _ _ (by omega), setCell_cell_other _ _ _ _ _ (by omega)]
    exact h.2 j hj
end Go.Proofs.Ytiibonnchmphcaa.Own

namespace Go.Proofs.Ytiibonnchmphcaa.Own
open Go.RowKit
set_option linter.unusedVariables false

theorem len_le_of_sub : ∀ {l m : List Int}, l.Nodup → (∀ x, x ∈ l → x ∈ m) → l.length ≤ m.length
  | [], m, _, _ => Nat.zero_le _
  | x :: l, m, hn, hs => by
    rw [List.nodup_cons] at hn
    have hx := hs x (by simp)
    have := len_le_of_sub (l := l) (m := m.erase x) hn.2 (fun y hy => by
      rw [List.mem_erase_of_ne (by rintro rfl; exact hn.1 hy)]
      exact hs y (by simp [hy]))
    rw [List.length_erase_of_mem hx] at this
    have hm : 0 < m.length := List.length_pos_of_mem hx
    simp only [List.length_cons]
    omega

theorem mem_boxesTo {f : Q4 → Int → Bool} {xs : List Q4} {k j : Nat} : (j : Int) ∈ boxesTo f xs k ↔ j < k ∧ xs.any (fun p => f p (j : Int)) = true := by
  induction k with
  | zero => simp [boxesTo]
  | succ k ih =>
    simp only [boxesTo, List.mem_append, ih]
    constructor
    · rintro (⟨h1, h2⟩ | h)
      · exact ⟨by omega, h2⟩
      · split at h
        · rename_i e
          simp at h
          have : j = k := by omega
          subst this
          exact ⟨by omega, e⟩
        · simp at h
    · rintro ⟨h1, h2⟩
      by_cases e : j = k
      · subst e; right; rw [if_pos h2]; simp
      · left; exact ⟨by omega, h2⟩

theorem okAll_of {f : Int → Bool} {ys : List P2} (hn : (ys.map Prod.fst).Nodup) (h : ∀ p, p ∈ ys → regOk p.1 = true ∧ f p.2 = true) : okAll f ys = true := by
  rw [okAll_iff]
  intro i hi
  have hm : ys.getD i (0, 0) ∈ ys := by simp [List.getD, hi]
  obtain ⟨h1, h2⟩ := h _ hm
  simp only [okAt, h1, h2, Bool.true_and, Bool.not_eq_true', List.any_eq_false, beq_iff_eq]
  intro p hp e
  obtain ⟨j, hj, rfl⟩ := List.getElem_of_mem hp
  rw [List.length_take] at hj
  rw [List.getElem_take] at e
  have hj' : j < ys.length := by omega
  have := List.pairwise_iff_getElem.1 hn j i (by simpa using hj') (by simpa using hi) (by omega)
  simp only [List.getElem_map] at this
  rw [List.getD_eq_getElem?_getD, List.getElem?_eq_getElem hi] at e
  exact this e

theorem progOk_ins {xs : List Q4} (h : progOk xs = true) : ∀ p, p ∈ xs → insOk p = true := by
  simp only [progOk, Bool.and_eq_true, List.all_eq_true] at h
  exact h.2

/-- The end of a run on what is ok. -/
theorem inv_of {bs : List P2} {xs : List Q4} (hp : progOk xs = true) : Inv bs xs (runR bs xs 0 initR) := (Inv.init bs xs).run (progOk_ins hp) 0 _

theorem outR_reads (s : RunSt) : (outR s).reads = s.reads := by unfold outR; split <;> rfl
theorem outR_puts (s : RunSt) : (outR s).puts = if s.code = 0 then s.puts else [] := by unfold outR; split <;> rfl
theorem outR_code (s : RunSt) : (outR s).code = s.code := by
  unfold outR; split
  · rename_i h; exact h.symm
  · rfl
theorem outR_val (s : RunSt) : (outR s).val = if s.code = 0 then s.regs.getD 0 0 else 0 := by unfold outR; split <;> rfl

theorem reads_ok {bs : List P2} {xs : List Q4} {s : RunSt} (hb : boxOk bs = true) (h : Inv bs xs s) : okAll verOk s.reads = true := by
  refine okAll_of h.rdN fun p hp => ?_
  obtain ⟨j, hj, rfl, _⟩ := h.rd p hp
  have := boxOk_ver hb j hj
  exact ⟨regOk_of j hj, by simp only [verOk, Bool.and_eq_true, decide_eq_true_eq]; exact this⟩
theorem puts_ok {bs : List P2} {xs : List Q4} {s : RunSt} (h : Inv bs xs s) : okAll numOk s.puts = true := by
  refine okAll_of h.ptN fun p hp => ?_
  obtain ⟨j, hj, e, hv, _⟩ := h.pt p hp
  exact ⟨by rw [e]; exact regOk_of j hj, hv⟩
theorem okAll_nil (f : Int → Bool) : okAll f [] = true := rfl

theorem out_ok {bs : List P2} {xs : List Q4} {s : RunSt} (hb : boxOk bs = true) (h : Inv bs xs s) : execOk (outR s).reads (outR s).puts (outR s).val (outR s).code = true := by
  unfold outR
  split
  · rename_i hc
    simp only [execOk, endOk, if_true, Bool.and_eq_true]
    exact ⟨⟨h.num hc 0 (by omega), reads_ok hb h⟩, puts_ok h⟩
  · rename_i hc
    have e : s.code = 1 ∨ s.code = 2 := by rcases h.code with e | e | e; exact absurd e hc; exact .inl e; exact .inr e
    simp only [execOk, endOk, if_neg hc, if_pos e, List.length_nil, decide_true, Bool.and_true, Bool.and_eq_true]
    exact ⟨by simp [reads_ok hb h], okAll_nil _⟩

theorem execRun_ok (bs : List P2) (xs : List Q4) : execOk (execRun bs xs).reads (execRun bs xs).puts (execRun bs xs).val (execRun bs xs).code = true := by
  unfold execRun
  cases hb : boxOk bs <;> cases hp : progOk xs
  · rfl
  · rfl
  · rfl
  · exact out_ok hb (inv_of hp)

theorem execRun_is {bs : List P2} {xs : List Q4} (hb : boxOk bs = true) (hp : progOk xs = true) : execRun bs xs = outR (runR bs xs 0 initR) := by simp [execRun, hb, hp]
theorem execRun_form {bs : List P2} {xs : List Q4} (h : (boxOk bs && progOk xs) = false) : execRun bs xs = ⟨[], [], 0, 3⟩ := by simp [execRun, h]

theorem reads_few {bs : List P2} {xs : List Q4} {s : RunSt} (h : Inv bs xs s) : s.reads.length ≤ (boxesTo loadsQ xs 4).length := by
  have := len_le_of_sub (l := s.reads.map Prod.fst) (m := boxesTo loadsQ xs 4) h.rdN (fun x hx => by
    rw [List.mem_map] at hx
    obtain ⟨p, hp, rfl⟩ := hx
    obtain ⟨j, hj, rfl, ha⟩ := h.rd p hp
    exact mem_boxesTo.2 ⟨hj, ha⟩)
  simpa using this
theorem puts_few {bs : List P2} {xs : List Q4} {s : RunSt} (h : Inv bs xs s) : s.puts.length ≤ (boxesTo putsQ xs 4).length := by
  have := len_le_of_sub (l := s.puts.map Prod.fst) (m := boxesTo putsQ xs 4) h.ptN (fun x hx => by
    rw [List.mem_map] at hx
    obtain ⟨p, hp, rfl⟩ := hx
    obtain ⟨j, hj, e, _, ha⟩ := h.pt p hp
    rw [e]
    exact mem_boxesTo.2 ⟨hj, ha⟩)
  simpa using this
theorem boxesTo_len' (f : Q4 → Int → Bool) (xs : List Q4) (k : Nat) : (boxesTo f xs k).length ≤ k := by
  induction k with
  | zero => simp [boxesTo]
  | succ k ih => simp only [boxesTo, List.length_append]; split <;> simp <;> omega
theorem execRun_few (bs : List P2) (xs : List Q4) : (execRun bs xs).reads.length ≤ (boxesTo loadsQ xs 4).length ∧ (execRun bs xs).puts.length ≤ (boxesTo putsQ xs 4).length := by
  cases h : boxOk bs && progOk xs with
  | false => rw [execRun_form h]; exact ⟨Nat.zero_le _, Nat.zero_le _⟩
  | true =>
    simp only [Bool.and_eq_true] at h
    rw [execRun_is h.1 h.2, outR_reads, outR_puts]
    have hi := inv_of (bs := bs) h.2
    refine ⟨reads_few hi, ?_⟩
    split
    · exact puts_few hi
    · exact Nat.zero_le _
theorem execRun_four (bs : List P2) (xs : List Q4) : (execRun bs xs).reads.length ≤ 4 ∧ (execRun bs xs).puts.length ≤ 4 := by
  have := execRun_few bs xs
  have h1 := boxesTo_len' loadsQ xs 4
  have h2 := boxesTo_len' putsQ xs 4
  omega

theorem freshAt_of {bs : List P2} {j : Nat} : freshAt bs ((j : Int), (bs.getD j (0, 0)).1) = true := by simp [freshAt]
theorem execRun_fresh {bs : List P2} {xs : List Q4} (hb : boxOk bs = true) (hp : progOk xs = true) : execFresh bs (execRun bs xs).reads (execRun bs xs).puts (execRun bs xs).val (execRun bs xs).code = true := by
  simp only [execFresh, hb, execRun_ok, Bool.true_and]
  rw [execRun_is hb hp, outR_reads, List.all_eq_true]
  intro p hp'
  obtain ⟨j, hj, rfl, _⟩ := (inv_of (bs := bs) hp).rd p hp'
  exact freshAt_of

/-- On other boxes that are the same where it looked a run is the same. -/
theorem execRun_same {bs bs' : List P2} {xs : List Q4} (hb : boxOk bs = true) (hb' : boxOk bs' = true) (hp : progOk xs = true) (h : ∀ j : Nat, j < 4 → hasBox (execRun bs xs).reads j = true → bs'.getD j (0, 0) = bs.getD j (0, 0)) : execRun bs' xs = execRun bs xs := by
  rw [execRun_is hb hp, execRun_is hb' hp]
  rw [execRun_is hb hp, outR_reads] at h
  rw [run_same bs bs' xs 0 initR]
  intro j hj
  have hi := inv_of (bs := bs) hp
  have hj' := hj
  rw [List.mem_map] at hj
  obtain ⟨p, hp', e⟩ := hj
  obtain ⟨i, hi4, rfl, _⟩ := hi.rd p hp'
  simp only at e
  have : i = j := by omega
  subst this
  exact h i hi4 (hasBox_iff.2 hj')

/-- On boxes of the same numbers, where the program can look, a run does the same. -/
theorem execRun_alike {bs bs' : List P2} {xs : List Q4} (hb : boxOk bs = true) (hb' : boxOk bs' = true) (hv : ∀ j : Nat, j < 4 → (j : Int) ∈ boxesTo loadsQ xs 4 → (bs.getD j (0, 0)).2 = (bs'.getD j (0, 0)).2) : (execRun bs xs).puts = (execRun bs' xs).puts ∧ (execRun bs xs).val = (execRun bs' xs).val ∧ (execRun bs xs).code = (execRun bs' xs).code := by
  cases hp : progOk xs with
  | false => rw [execRun_form (by simp [hp]), execRun_form (by simp [hp])]; exact ⟨rfl, rfl, rfl⟩
  | true =>
    rw [execRun_is hb hp, execRun_is hb' hp]
    have := run_alike (bs := bs) (bs' := bs') (xs := xs) (fun p hp' e => by
      have hi := progOk_ins hp p hp'
      obtain ⟨kd, a, b, n⟩ := p
      simp only at e
      subst e
      rw [insOk_1] at hi
      simp only [Bool.and_eq_true] at hi
      obtain ⟨j, hj, rfl⟩ := regOk_nat hi.1.2
      simp only [Int.toNat_natCast]
      exact hv j hj (mem_boxesTo.2 ⟨hj, by rw [List.any_eq_true]; exact ⟨_, hp', by simp [loadsQ]⟩⟩)) 0 initR initR ⟨rfl, rfl, rfl, rfl⟩
    rw [outR_puts, outR_puts, outR_val, outR_val, outR_code, outR_code, this.puts, this.regs, this.code]
    exact ⟨rfl, rfl, rfl⟩
end Go.Proofs.Ytiibonnchmphcaa.Own

namespace Go.Proofs.Ytiibonnchmphcaa.Own
open Go.RowKit

theorem owned_box {w : World} {base m : Nat} {v : Value} {xs : List (Int × Int)} (h : w.ownsRow base 40 2 v m (flat xs)) (hm : 0 < m) :
    ∃ g cap, v = .slice (some ⟨g, 0, none⟩) m cap ∧ base ≤ g ∧ m ≤ cap ∧ BoxAt w g 0 xs ∧ (∀ o, w.frozen? ⟨g, o, none⟩ = false) := by
  obtain ⟨hl, h⟩ := h
  rcases h with ⟨_, h0⟩ | ⟨g, cap, cur, hv, hb, hh, hmc, _, hsz, htk⟩
  · omega
  refine ⟨g, cap, hv, hb, hmc, ⟨(Array.getElem?_eq_some_iff.1 hh).1, fun i hi => ?_⟩, fun o => frozen_heap hh o⟩
  have e := flat_even xs i hi
  rw [flat_length] at hl
  rw [← htk] at e
  rw [cell_heap hh, cell_heap hh, Nat.zero_add]
  rw [List.getElem?_take_of_lt (by omega), List.getElem?_take_of_lt (by omega)] at e
  simpa using e

theorem flat_at0 {w : World} {b : Nat} {xs : List (Int × Int)} (h : BoxAt w b 0 xs) (j : Nat) (v : Value) (hv : (flat xs)[j]? = some v) : w.cell? ((⟨b, 0, none⟩ : Addr).add j) = some v := by
  have e : (⟨b, 0, none⟩ : Addr).add j = ⟨b, j, none⟩ := by unfold Addr.add; split <;> simp_all
  have hl : j < (flat xs).length := (List.getElem?_eq_some_iff.1 hv).1
  rw [flat_length] at hl
  have hk : j / 2 < xs.length := by omega
  have f := flat_even _ (j / 2) hk
  have hx := h.2 (j / 2) hk
  rw [Nat.zero_add] at hx
  rw [e]
  rcases Nat.mod_two_eq_zero_or_one j with m | m
  · rw [show j / 2 * 2 = j by omega] at f hx
    rw [hx.1, ← f.1, hv]
  · rw [show j / 2 * 2 + 1 = j by omega] at f hx
    rw [hx.2, ← f.2, hv]

theorem own_empty (w : World) (N : Nat) (hN : w.heap.size = N) : (w.alloc (.cells #[] 40)).ownsRow N 40 2 (.slice (some ⟨N, 0, none⟩) 0 0) 0 [] := by
  subst hN
  exact ⟨rfl, .inr ⟨w.heap.size, 0, #[], rfl, Nat.le_refl _, heap_new _ _, Nat.le_refl _, by unfold maxLen; omega, rfl, rfl⟩⟩

theorem small_max {n : Nat} (h : n ≤ 4) : 0 + n ≤ maxLen := by unfold maxLen; omega

/-- What an append onto an empty row of one's own leaves. -/
theorem grown_box {w w' : World} {v' : Value} {xs : List (Int × Int)} {N : Nat} (hN : w.heap.size = N) (hl : 0 < xs.length) (h : w'.ownsRow N 40 2 v' xs.length (flat xs)) (hg : (w.alloc (.cells #[] 40)).grownBy w' (Value.slice (some ⟨N, 0, none⟩) 0 0).ownBlock) :
    ∃ g cap, v' = .slice (some ⟨g, 0, none⟩) xs.length cap ∧ N ≤ g ∧ xs.length ≤ cap ∧ BoxAt w' g 0 xs ∧ (∀ o, w'.frozen? ⟨g, o, none⟩ = false) ∧ Below N w w' := by
  subst hN
  obtain ⟨g, cap, h1, h2, h3, h4, h5⟩ := owned_box h hl
  refine ⟨g, cap, h1, h2, h3, h4, h5, ?_⟩
  refine Below.grown ((Below.refl _ _).alloc (Nat.le_refl _) _) hg (by rw [size_new]; omega) ?_
  intro k hk
  simp only [Value.ownBlock] at hk
  injection hk with hk
  omega

theorem flat_atO {w : World} {b off : Nat} {xs : List (Int × Int)} (h : BoxAt w b off xs) (j : Nat) (v : Value) (hv : (flat xs)[j]? = some v) : w.cell? ((⟨b, off, none⟩ : Addr).add j) = some v := by
  have e : (⟨b, off, none⟩ : Addr).add j = ⟨b, off + j, none⟩ := by unfold Addr.add; split <;> simp_all
  have hl : j < (flat xs).length := (List.getElem?_eq_some_iff.1 hv).1
  rw [flat_length] at hl
  have hk : j / 2 < xs.length := by omega
  have f := flat_even _ (j / 2) hk
  have hx := h.2 (j / 2) hk
  rw [e]
  rcases Nat.mod_two_eq_zero_or_one j with m | m
  · rw [show j / 2 * 2 = j by omega] at f hx
    rw [hx.1, ← f.1, hv]
  · rw [show off + j / 2 * 2 + 1 = off + j by omega] at hx
    rw [show j / 2 * 2 + 1 = j by omega] at f
    rw [hx.2, ← f.2, hv]

theorem infoBoxO : (Try.prog.info? 40).map (fun i => (i.zero, i.size, i.bytes)) = some (some (.agg #[.int .i64 0, .int .i64 0]), 2, 16) := by kernel_rfl
end Go.Proofs.Ytiibonnchmphcaa.Own

namespace Go.Proofs.Ytiibonnchmphcaa.Own
open Go.RowKit
set_option linter.unusedVariables false

/-- v is a slice of the pairs xs, of element type t, its memory from B on its own. -/
def OwnP (t : TypeId) (w : World) (B : Nat) (v : Value) (xs : List P2) : Prop := w.ownsRow B t 2 v xs.length (flat xs)

theorem OwnP.open {t : TypeId} {w : World} {B : Nat} {v : Value} {xs : List P2} (h : OwnP t w B v xs) :
    ∃ a cap, v = .slice a xs.length cap ∧ Sl w a xs ∧ xs.length ≤ cap ∧ cap ≤ maxLen ∧ (∀ x, a = some x → v.ownBlock = some x.block ∧ x.off = 0 ∧ x.spot = none) := by
  obtain ⟨h1, h2⟩ := h
  rcases h2 with ⟨hv, h0⟩ | ⟨g, cap, cur, hv, hg, hh, hmc, hml, hsz, htk⟩
  · exact ⟨none, 0, by rw [hv, h0], .inl (List.eq_nil_of_length_eq_zero h0), by omega, by unfold maxLen; omega, fun x e => by cases e⟩
  · refine ⟨some ⟨g, 0, none⟩, cap, hv, .inr ⟨g, 0, rfl, (Array.getElem?_eq_some_iff.1 hh).1, fun i hi => ?_⟩, hmc, hml, fun x e => by injection e with e; subst e; rw [hv]; exact ⟨rfl, rfl, rfl⟩⟩
    have e := flat_even xs i hi
    rw [← htk] at e
    rw [cell_heap hh, cell_heap hh, Nat.zero_add]
    rw [List.getElem?_take_of_lt (by omega), List.getElem?_take_of_lt (by omega)] at e
    simpa using e
theorem OwnP.keep {t : TypeId} {w w' : World} {B : Nat} {v : Value} {xs : List P2} {row : Option Nat} (h : OwnP t w B v xs) (hg : w.grownBy w' row) (hne : v.ownBlock = none ∨ v.ownBlock ≠ row) : OwnP t w' B v xs := World.ownsRow.kept h hg hne
theorem OwnP.below {t : TypeId} {w w' : World} {B : Nat} {v : Value} {xs : List P2} (h : OwnP t w B v xs) (hb : Below w.heap.size w w') : OwnP t w' B v xs := by
  obtain ⟨h1, h2⟩ := h
  refine ⟨h1, ?_⟩
  rcases h2 with h2 | ⟨g, cap, cur, hv, hg, hh, r⟩
  · exact .inl h2
  · exact .inr ⟨g, cap, cur, hv, hg, by rw [hb.block g (Array.getElem?_eq_some_iff.1 hh).1]; exact hh, r⟩
theorem OwnP.lower {t : TypeId} {w : World} {B B' : Nat} {v : Value} {xs : List P2} (h : OwnP t w B v xs) (hB : B' ≤ B) : OwnP t w B' v xs := by
  obtain ⟨h1, h2⟩ := h
  refine ⟨h1, ?_⟩
  rcases h2 with h2 | ⟨g, cap, cur, hv, hg, r⟩
  · exact .inl h2
  · exact .inr ⟨g, cap, cur, hv, Nat.le_trans hB hg, r⟩
theorem OwnP.nil (t : TypeId) (w : World) (B : Nat) : OwnP t w B (.slice none 0 0) [] := World.ownsRow_nil _ _ _ _
theorem flat_snocP (xs : List P2) (p : P2) : flat (xs ++ [p]) = flat xs ++ [.int .i64 p.1, .int .i64 p.2] := by simp [flat]

theorem flat_extP {xs : List P2} {l : List Value} (hl : l.length = xs.length * 2) (h : ∀ i, i < xs.length → l[i * 2]? = some (.int .i64 (xs.getD i (0, 0)).1) ∧ l[i * 2 + 1]? = some (.int .i64 (xs.getD i (0, 0)).2)) : l = flat xs := by
  apply List.ext_getElem?
  intro j
  by_cases hj : j < xs.length * 2
  · have hk : j / 2 < xs.length := by omega
    have e1 := h (j / 2) hk
    have e2 := flat_even xs (j / 2) hk
    rcases Nat.mod_two_eq_zero_or_one j with m | m
    · rw [show j = j / 2 * 2 by omega, e1.1, e2.1]
    · rw [show j = j / 2 * 2 + 1 by omega, e1.2, e2.2]
  · rw [List.getElem?_eq_none (by omega), List.getElem?_eq_none (by rw [flat_length]; omega)]

theorem getD_setP (xs : List P2) (i j : Nat) (v : P2) (hi : i < xs.length) : (xs.set i v).getD j (0, 0) = if i = j then v else xs.getD j (0, 0) := by
  simp only [List.getD_eq_getElem?_getD, List.getElem?_set]
  by_cases e : i = j
  · simp [e, show j < xs.length by omega]
  · simp [e]

/-- The second number of a pair of such a slice, turned. -/
theorem OwnP.set {t : TypeId} {w : World} {B g cap : Nat} {xs : List P2} (h : OwnP t w B (.slice (some ⟨g, 0, none⟩) xs.length cap) xs) (i : Nat) (hi : i < xs.length) (n : Int) :
    OwnP t (w.setCell ⟨g, i * 2 + 1, none⟩ (.int .i64 n)) B (.slice (some ⟨g, 0, none⟩) xs.length cap) (xs.set i ((xs.getD i (0, 0)).1, n)) := by
  obtain ⟨h1, h2⟩ := h
  rcases h2 with ⟨hv, h0⟩ | ⟨g', cap', cur, hv, hg, hh, hmc, hml, hsz, htk⟩
  · omega
  injection hv with e1 e2 e3
  injection e1 with e1
  injection e1 with e1
  subst e1 e3
  have hl2 := flat_length xs
  refine ⟨by rw [flat_length], .inr ⟨g, cap, cur.setIfInBounds (i * 2 + 1) (.int .i64 n), by rw [List.length_set], hg, ?_, by rw [List.length_set]; exact hmc, hml, by simpa using hsz, ?_⟩⟩
  · simp [World.setCell, Array.getElem?_modify, hh]
  · rw [List.length_set]
    have hcl : xs.length * 2 ≤ cur.size := by rw [hsz]; omega
    apply flat_extP
    · rw [List.length_set, List.length_take]
      simp
      omega
    · intro j hj
      rw [List.length_set] at hj
      have e := flat_even xs j hj
      rw [← htk, List.getElem?_take_of_lt (by omega), List.getElem?_take_of_lt (by omega)] at e
      rw [List.getElem?_take_of_lt (by omega), List.getElem?_take_of_lt (by omega), getD_setP _ _ _ _ hi]
      by_cases hij : i = j
      · subst hij
        rw [if_pos rfl]
        refine ⟨?_, ?_⟩
        · have := e.1
          simp only [Array.getElem?_toList] at this ⊢
          rw [Array.getElem?_setIfInBounds_ne (by omega)]; exact this
        · simp only [Array.getElem?_toList]
          rw [Array.getElem?_setIfInBounds_self_of_lt (by omega)]
      · rw [if_neg hij]
        refine ⟨?_, ?_⟩
        · have := e.1
          simp only [Array.getElem?_toList] at this ⊢
          rw [Array.getElem?_setIfInBounds_ne (by omega)]; exact this
        · have := e.2
          simp only [Array.getElem?_toList] at this ⊢
          rw [Array.getElem?_setIfInBounds_ne (by omega)]; exact this
end Go.Proofs.Ytiibonnchmphcaa.Own

namespace Go.Proofs.Ytiibonnchmphcaa.Own
open Go.RowKit

/-- Of the blocks that were there none but rb has turned. -/
structure Bar (rb : Nat) (w w' : World) : Prop where
  os : w'.os = w.os
  tape : w'.tape = w.tape
  output : w'.output = w.output
  size : w.heap.size ≤ w'.heap.size
  block : ∀ k, k < w.heap.size → k ≠ rb → w'.heap[k]? = w.heap[k]?

theorem Bar.refl (rb : Nat) (w : World) : Bar rb w w := ⟨rfl, rfl, rfl, Nat.le_refl _, fun _ _ _ => rfl⟩
theorem Bar.trans {rb : Nat} {a b c : World} (h : Bar rb a b) (k : Bar rb b c) : Bar rb a c :=
  ⟨k.os.trans h.os, k.tape.trans h.tape, k.output.trans h.output, Nat.le_trans h.size k.size, fun i hi hn => (k.block i (Nat.lt_of_lt_of_le hi h.size) hn).trans (h.block i hi hn)⟩
theorem Bar.ofBelow {rb : Nat} {w w' : World} (h : Below w.heap.size w w') : Bar rb w w' := ⟨h.os, h.tape, h.output, h.size, fun k hk _ => h.block k hk⟩
theorem Bar.ofOnly {rb : Nat} {w w' : World} (h : Only rb w w') : Bar rb w w' := ⟨h.os, h.tape, h.output, Nat.le_of_eq h.size.symm, fun k _ hn => h.block k hn⟩
theorem Bar.setCell {rb : Nat} {a w : World} (h : Bar rb a w) {p : Addr} (hp : a.heap.size ≤ p.block) (v : Value) : Bar rb a (w.setCell p v) :=
  ⟨h.os, h.tape, h.output, by simpa [World.setCell] using h.size, fun k hk hn => by rw [Below.heap_setCell _ _ _ _ (by omega)]; exact h.block k hk hn⟩
theorem Bar.alloc {rb : Nat} {a w : World} (h : Bar rb a w) (o : Obj) : Bar rb a (w.alloc o) :=
  h.trans (Bar.ofBelow ((Below.refl _ _).alloc (Nat.le_refl _) _))
theorem Bar.below {rb B : Nat} {w w' : World} (h : Bar rb w w') (hB : B ≤ rb) (hB2 : B ≤ w.heap.size) : Below B w w' := ⟨h.os, h.tape, h.output, h.size, fun k hk => h.block k (by omega) (by omega)⟩
end Go.Proofs.Ytiibonnchmphcaa.Own

namespace Go.Proofs.Ytiibonnchmphcaa.Own
open Go.RowKit
set_option linter.unusedVariables false

theorem grR (w : World) (row : Option Nat) : w.grownBy w row := ⟨rfl, rfl, rfl, Nat.le_refl _, fun _ _ _ => rfl⟩
theorem grSet {a b : World} {k o : Nat} (h : a.grownBy b (some k)) (v : Value) : a.grownBy (b.setCell ⟨k, o, none⟩ v) (some k) :=
  ⟨h.os, h.tape, h.output, by simpa [World.setCell] using h.size, fun i hi hn => by rw [Below.heap_setCell _ _ _ _ (fun e => hn (by rw [e]))]; exact h.block i hi hn⟩
theorem grSetN {a b : World} {row : Option Nat} {p : Addr} (h : a.grownBy b row) (hp : a.heap.size ≤ p.block) (v : Value) : a.grownBy (b.setCell p v) row :=
  ⟨h.os, h.tape, h.output, by simpa [World.setCell] using h.size, fun i hi hn => by rw [Below.heap_setCell _ _ _ _ (by omega)]; exact h.block i hi hn⟩
theorem grAlloc {a b : World} {row : Option Nat} (h : a.grownBy b row) (o : Obj) : a.grownBy (b.alloc o) row := h.trans ((World.grownBy_alloc b o row))
theorem grDrew {a b : World} {row : Option Nat} (h : a.grownBy b row) : a.grownBy b.drew row := h.trans ⟨rfl, rfl, rfl, Nat.le_refl _, fun _ _ _ => rfl⟩
theorem grDrewN {a b : World} {row : Option Nat} (h : a.grownBy b row) (n : Nat) : a.grownBy (b.drewN n) row := h.trans ⟨rfl, rfl, rfl, Nat.le_refl _, fun _ _ _ => rfl⟩
theorem grBelow {w w' : World} {row : Option Nat} (h : Below w.heap.size w w') : w.grownBy w' row := ⟨h.os, h.tape, h.output, h.size, fun k hk _ => h.block k hk⟩
theorem grBut {a b : World} (h : a.grownBy b none) (row : Option Nat) : a.grownBy b row := ⟨h.os, h.tape, h.output, h.size, fun i hi _ => h.block i hi (by simp)⟩
/-- A block that was not there may turn. -/
theorem grNew {a b c : World} {row : Option Nat} {k : Nat} (h : a.grownBy b row) (g : b.grownBy c (some k)) (hk : a.heap.size ≤ k) : a.grownBy c row :=
  ⟨g.os.trans h.os, g.tape.trans h.tape, g.output.trans h.output, Nat.le_trans h.size g.size, fun i hi hn => (g.block i (Nat.lt_of_lt_of_le hi h.size) (by simp; omega)).trans (h.block i hi hn)⟩
theorem Sl.grown {w w' : World} {row : Option Nat} {a : Option Addr} {xs : List (Int × Int)} (h : Sl w a xs) (hg : w.grownBy w' row) (hb : ∀ x, a = some x → row ≠ some x.block) : Sl w' a xs := by
  rcases h with h | ⟨b, off, rfl, h⟩
  · exact .inl h
  · have e : ∀ o, w'.cell? ⟨b, o, none⟩ = w.cell? ⟨b, o, none⟩ := fun o => World.cell?_of_block (w := w) (a := ⟨b, o, none⟩) (hg.block b h.1 (fun e => hb _ rfl e.symm))
    exact .inr ⟨b, off, rfl, Nat.lt_of_lt_of_le h.1 hg.size, fun i hi => by rw [e, e]; exact h.2 i hi⟩
end Go.Proofs.Ytiibonnchmphcaa.Own

namespace Go.Proofs.Ytiibonnchmphcaa.Own
open Go.RowKit
set_option linter.unusedVariables false
set_option linter.unusedSimpArgs false

/-- What looking leaves. -/
def LookPost (bs xs ys : List P2) (j : Nat) (B : Nat) (rv pv : Value) (v k : Int) (w : World) (e : Ending) (w' : World) : Prop :=
  ∃ rv', e = .returned (.tuple #[.int .i64 (inBox bs ys j), .agg #[rv', pv, .int .i64 v, .int .i64 k]]) ∧ OwnP 38 w' B rv' (lookR bs xs ys j) ∧ OwnP 50 w' B pv ys ∧
    (rv'.ownBlock = none ∨ rv'.ownBlock ≠ pv.ownBlock) ∧ w.grownBy w' rv.ownBlock ∧ (∀ g, rv'.ownBlock = some g → rv.ownBlock = some g ∨ w.heap.size ≤ g)

theorem infoRead : (Try.prog.info? 38).map (fun i => (i.zero, i.size, i.bytes)) = some (some (.agg #[.int .i64 0, .int .i64 0]), 2, 16) := by kernel_rfl

set_option maxRecDepth 100000 in
set_option maxHeartbeats 4000000 in
theorem l3Look (la : Option Addr) (lc : Nat) (bs : List P2) (j : Nat) (rv pv : Value) (xs ys : List P2) (v k : Int) (B : Nat) (w : World)
    (hb : Sl w la bs) (hj : j < bs.length) (l0 : bs.length ≤ 2 ^ 40) (hla : ∀ x, la = some x → rv.ownBlock ≠ some x.block)
    (hr : OwnP 38 w B rv xs) (hp : OwnP 50 w B pv ys) (hd : rv.ownBlock = none ∨ rv.ownBlock ≠ pv.ownBlock) (hB : B ≤ w.heap.size) (lx : xs.length ≤ 1000) (ly : ys.length ≤ 1000) :
    Calls Try.prog 114 #[.slice la bs.length lc, .agg #[rv, pv, .int .i64 v, .int .i64 k], .int .i64 j] w fun e w' => LookPost bs xs ys j B rv pv v k w e w' := by
  obtain ⟨ar, cr, hrv, slr, hcr, hmr, hbr⟩ := hr.open
  obtain ⟨ap, cp, hpv, slp, hcp, hmp, hbp⟩ := hp.open
  have HR : Hid (OwnP 38 w B rv xs) := hr
  have HP : Hid (OwnP 50 w B pv ys) := hp
  have HD : Hid (rv.ownBlock = none ∨ rv.ownBlock ≠ pv.ownBlock) := hd
  have HLA : Hid (∀ x, la = some x → rv.ownBlock ≠ some x.block) := hla
  have HRV : Hid (rv = .slice ar xs.length cr) := hrv
  have HPV : Hid (pv = .slice ap ys.length cp) := hpv
  have SR : Hid (Sl w ar xs) := slr
  have SP : Hid (Sl w ap ys) := slp
  have SB : Hid (Sl w la bs) := hb
  clear hr hp hd hla slr slp hb hbr hbp hcr hcp hmr hmp
  obtain ⟨W, hW⟩ : ∃ W, W = (w.alloc (.cells #[.slice ar xs.length cr, .slice ap ys.length cp, .int .i64 v, .int .i64 k] 30)).alloc (.cells #[.slice none 0 0, .slice none 0 0, .int .i64 0, .int .i64 0] 30) := ⟨_, rfl⟩
  have BW : Hid (Below w.heap.size w W) := by show Below _ _ _; rw [hW]; exact ((Below.refl _ _).alloc (Nat.le_refl _) _).alloc (by simp) _
  have HSW : Hid (W.heap.size = w.heap.size + 2) := by show _ = _; rw [hW]; simp
  have hNW : w.heap.size + 1 < W.heap.size := by have := HSW.out; omega
  have hBW : B ≤ W.heap.size := by omega
  have g0 : Hid (W.heap[w.heap.size]? = some (.cells #[.slice ar xs.length cr, .slice ap ys.length cp, .int .i64 v, .int .i64 k] 30 (0, 0))) := by show _ = _; rw [hW]; exact heap_new1 _ _ _
  have g1 : Hid (W.heap[w.heap.size + 1]? = some (.cells #[.slice none 0 0, .slice none 0 0, .int .i64 0, .int .i64 0] 30 (0, 0))) := by show _ = _; rw [hW]; exact heap_new2 _ _ _
  have HW : Hid (W = _) := hW
  clear hW
  have q0 : W.cell? ⟨w.heap.size, 0, none⟩ = some (.slice ar xs.length cr) := by rw [cell_heap g0.out]; rfl
  have q1 : W.cell? ⟨w.heap.size, 1, none⟩ = some (.slice ap ys.length cp) := by rw [cell_heap g0.out]; rfl
  have q2 : W.cell? ⟨w.heap.size, 2, none⟩ = some (.int .i64 v) := by rw [cell_heap g0.out]; rfl
  have q3 : W.cell? ⟨w.heap.size, 3, none⟩ = some (.int .i64 k) := by rw [cell_heap g0.out]; rfl
  have z0 : W.cell? ⟨w.heap.size + 1, 0, none⟩ = some (.slice none 0 0) := by rw [cell_heap g1.out]; rfl
  have z1 : W.cell? ⟨w.heap.size + 1, 1, none⟩ = some (.slice none 0 0) := by rw [cell_heap g1.out]; rfl
  have z2 : W.cell? ⟨w.heap.size + 1, 2, none⟩ = some (.int .i64 0) := by rw [cell_heap g1.out]; rfl
  have z3 : W.cell? ⟨w.heap.size + 1, 3, none⟩ = some (.int .i64 0) := by rw [cell_heap g1.out]; rfl
  have fz : ∀ o, W.frozen? ⟨w.heap.size + 1, o, none⟩ = false := fun o => frozen_heap g1.out o
  have lR : Hid (∀ g, rv.ownBlock = some g → g < w.heap.size) := fun g hg => (World.ownsRow.lt HR.out g hg).2
  have lP : Hid (∀ g, pv.ownBlock = some g → g < w.heap.size) := fun g hg => (World.ownsRow.lt HP.out g hg).2
  -- where nothing but its own cells has turned
  have FIN : Hid (∀ W', W.grownBy W' (some (w.heap.size + 1)) → lookR bs xs ys j = xs → OwnP 38 W' B rv (lookR bs xs ys j) ∧ OwnP 50 W' B pv ys ∧ (rv.ownBlock = none ∨ rv.ownBlock ≠ pv.ownBlock) ∧ w.grownBy W' rv.ownBlock ∧ (∀ g, rv.ownBlock = some g → rv.ownBlock = some g ∨ w.heap.size ≤ g)) := fun W' hg hl => by
    have e : w.grownBy W' none := grNew (grBelow BW.out) hg (by omega)
    rw [hl]
    exact ⟨HR.out.keep e (by cases h : rv.ownBlock <;> simp), HP.out.keep e (by cases h : pv.ownBlock <;> simp), HD.out, grBut e _, fun g e => .inl e⟩
  rw [HRV.out, HPV.out]
  go_enter Try.func114, Try.ntmps114
  go_wp2_with fail
  rw [← HW.out]
  refine (l3At ap cp ys.length ys j W (SP.out.below BW.out) rfl (by omega)).mono ?_
  rintro e w1 ⟨rfl, hw⟩
  rw [hw]
  clear hw
  cases hy : hasBox ys j with
  | true =>
    obtain ⟨pe, pl⟩ := place_idx ys j hy
    rw [pe]
    have EI : Hid (inBox bs ys j = (ys.getD (idxBox ys j) (0, 0)).2) := by show _ = _; simp [inBox, hy]
    have EL : Hid (lookR bs xs ys j = xs) := by show _ = _; simp [lookR, hy]
    generalize idxBox ys j = m at pl EI
    clear pe hy
    rcases (SP.out.below BW.out) with h0 | ⟨b, off, rfl, hat⟩
    · rw [h0] at pl; simp at pl
    have cy := (hat.2 m pl).2
    rw [← EI.out] at cy
    clear hat
    have dm : decide ((0 : Int) ≤ (m : Int)) = true := by simp
    have hml : (m : Int) < ((ys.length : Nat) : Int) := by omega
    go_wp2
    go_region
    all_goals
      go_wp2
      refine bodyPost_ret (v := .tuple #[.int .i64 (inBox bs ys j), .agg #[.slice ar xs.length cr, .slice (some ⟨b, off, none⟩) ys.length cp, .int .i64 v, .int .i64 k]]) (by simp [results, Try.results114, go_sem, z0, z1, z2, z3]) rfl ⟨rv, by rw [HRV.out], ?_⟩
      rw [← HRV.out, ← HPV.out]
      refine FIN.out _ ?_ EL.out
      repeat (first | exact grR _ _ | apply grSet | apply grDrew | apply grDrewN)
  | false =>
    rw [place_no ys j hy]
    have EI : Hid (inBox bs ys j = (bs.getD j (0, 0)).2) := by show _ = _; simp [inBox, hy]
    have YN : Hid (hasBox ys j = false) := hy
    clear hy
    rcases SB.out with h0 | ⟨b, off, rfl, hat0⟩
    · rw [h0] at hj; simp at hj
    have hat := hat0.below BW.out
    have hbw : b < w.heap.size := hat0.1
    clear hat0
    have cv := (hat.2 j hj).1
    have cl := (hat.2 j hj).2
    have hbW : b < W.heap.size := hat.1
    rw [← EI.out] at cl
    obtain ⟨ver, hver⟩ : ∃ z, z = (bs.getD j (0, 0)).1 := ⟨_, rfl⟩
    rw [← hver] at cv
    have HV : Hid (ver = (bs.getD j (0, 0)).1) := hver
    clear hat hver
    have hjl : (j : Int) < ((bs.length : Nat) : Int) := by omega
    go_wp2_with fail
    refine (l3Saw ar cr xs.length xs j W (SR.out.below BW.out) rfl (by omega)).mono ?_
    rintro e w1 ⟨rfl, hw⟩
    rw [hw]
    clear hw
    cases hx : (xs.any fun p => p.1 == (j : Int)) with
    | true =>
      have EL : Hid (lookR bs xs ys j = xs) := by show _ = _; unfold lookR; rw [YN.out]; simp [show hasBox xs j = true from hx]
      clear hx
      go_wp2
      go_region
      all_goals
        go_wp2
        refine bodyPost_ret (v := .tuple #[.int .i64 (inBox bs ys j), .agg #[.slice ar xs.length cr, .slice ap ys.length cp, .int .i64 v, .int .i64 k]]) (by simp [results, Try.results114, go_sem, z0, z1, z2, z3]) rfl ⟨rv, by rw [HRV.out], ?_⟩
        rw [← HRV.out, ← HPV.out]
        refine FIN.out _ ?_ EL.out
        repeat (first | exact grR _ _ | apply grSet | apply grDrew | apply grDrewN)
    | false =>
      have EL : Hid (lookR bs xs ys j = xs ++ [((j : Int), ver)]) := by show _ = _; unfold lookR; rw [YN.out, HV.out]; simp [show hasBox xs j = false from hx]
      clear hx
      obtain ⟨i0, hi0, hz0, hz1, hz2⟩ := info_parts infoRead
      have HRW : Hid (W.ownsRow B 38 2 (.slice ar xs.length cr) xs.length (flat xs)) := by
        show W.ownsRow _ _ _ _ _ _
        rw [← HRV.out]; exact HR.out.below BW.out
      have OB : Hid (rv.ownBlock = (Value.slice ar xs.length cr).ownBlock) := by show _ = _; rw [HRV.out]
      have hN : Hid (xs.length + 1 ≤ maxLen) := by show _ ≤ _; unfold maxLen; omega
      have hBy : Hid ((xs.length + 1) * 16 ≤ 140737488355328) := by show _ ≤ _; omega
      have nN : Hid ((Value.slice ar xs.length cr).ownBlock ≠ some w.heap.size ∧ (Value.slice ar xs.length cr).ownBlock ≠ some (w.heap.size + 1) ∧ (Value.slice ar xs.length cr).ownBlock ≠ some b) := by
        show _ ∧ _
        rw [← OB.out]
        exact ⟨fun e => by have := lR.out _ e; omega, fun e => by have := lR.out _ e; omega, HLA.out _ rfl⟩
      have AFT : Hid (∀ w1 : World, W.grownBy w1 (Value.slice ar xs.length cr).ownBlock → w1.heap[w.heap.size]? = some (.cells #[.slice ar xs.length cr, .slice ap ys.length cp, .int .i64 v, .int .i64 k] 30 (0, 0)) ∧ w1.heap[w.heap.size + 1]? = some (.cells #[.slice none 0 0, .slice none 0 0, .int .i64 0, .int .i64 0] 30 (0, 0)) ∧ w1.cell? ⟨b, off + j * 2, none⟩ = some (.int .i64 ver) ∧ w1.cell? ⟨b, off + j * 2 + 1, none⟩ = some (.int .i64 (inBox bs ys j))) := fun w1 hg => by
        refine ⟨?_, ?_, ?_, ?_⟩
        · rw [hg.block _ (by omega) (Ne.symm nN.out.1)]; exact g0.out
        · rw [hg.block _ (by omega) (Ne.symm nN.out.2.1)]; exact g1.out
        · rw [hg.cell_far ⟨b, off + j * 2, none⟩ hbW (Ne.symm nN.out.2.2)]; exact cv
        · rw [hg.cell_far ⟨b, off + j * 2 + 1, none⟩ hbW (Ne.symm nN.out.2.2)]; exact cl
      have FIN2 : Hid (∀ (w1 : World) (gg cap : Nat), W.grownBy w1 (Value.slice ar xs.length cr).ownBlock → w1.ownsRow B 38 2 (.slice (some ⟨gg, 0, none⟩) (xs.length + 1) cap) (xs.length + 1) (flat xs ++ [.int .i64 j, .int .i64 ver]) → ((Value.slice ar xs.length cr).ownBlock = some gg ∨ gg = W.heap.size + 1) → ∀ W', (w1.setCell ⟨w.heap.size, 0, none⟩ (.slice (some ⟨gg, 0, none⟩) (xs.length + 1) cap)).grownBy W' (some (w.heap.size + 1)) → OwnP 38 W' B (.slice (some ⟨gg, 0, none⟩) (xs.length + 1) cap) (lookR bs xs ys j) ∧ OwnP 50 W' B pv ys ∧ ((Value.slice (some ⟨gg, 0, none⟩) (xs.length + 1) cap).ownBlock = none ∨ (Value.slice (some ⟨gg, 0, none⟩) (xs.length + 1) cap).ownBlock ≠ pv.ownBlock) ∧ w.grownBy W' rv.ownBlock ∧ (∀ g, (Value.slice (some ⟨gg, 0, none⟩) (xs.length + 1) cap).ownBlock = some g → rv.ownBlock = some g ∨ w.heap.size ≤ g)) := by
        intro w1 gg cap hg ho hat W' hk
        have s1 : w1.grownBy (w1.setCell ⟨w.heap.size, 0, none⟩ (.slice (some ⟨gg, 0, none⟩) (xs.length + 1) cap)) (some w.heap.size) := grSet (grR _ _) _
        have hgg : gg ≠ w.heap.size ∧ gg ≠ w.heap.size + 1 ∧ (∀ q, pv.ownBlock = some q → gg ≠ q) := by
          rcases hat with h | h
          · rw [← OB.out] at h
            have := lR.out _ h
            refine ⟨by omega, by omega, fun q hq e => ?_⟩
            rcases HD.out with h' | h'
            · rw [h] at h'; cases h'
            · exact h' (by rw [h, hq, e])
          · refine ⟨by omega, by omega, fun q hq e => ?_⟩
            have := lP.out _ hq
            omega
        refine ⟨?_, ?_, ?_, ?_, ?_⟩
        · have o : OwnP 38 w1 B (.slice (some ⟨gg, 0, none⟩) (xs.length + 1) cap) (xs ++ [((j : Int), ver)]) := by
            unfold OwnP
            rw [List.length_append, flat_snocP]
            exact ho
          rw [EL.out]
          refine (o.keep s1 (.inr ?_)).keep hk (.inr ?_)
          · intro e; injection e with e; exact hgg.1 e
          · intro e; injection e with e; exact hgg.2.1 e
        · refine (((HP.out.below BW.out).keep hg ?_).keep s1 ?_).keep hk ?_
          · rw [← OB.out]
            rcases HD.out with h' | h'
            · rw [h']; cases pv.ownBlock <;> simp
            · exact .inr (Ne.symm h')
          · cases h : pv.ownBlock with
            | none => exact .inl rfl
            | some q => refine .inr fun e => ?_; injection e with e; have := lP.out _ h; omega
          · cases h : pv.ownBlock with
            | none => exact .inl rfl
            | some q => refine .inr fun e => ?_; injection e with e; have := lP.out _ h; omega
        · refine .inr fun e => ?_
          exact hgg.2.2 gg e.symm rfl
        · rw [OB.out]
          exact grNew (grNew ((grBelow BW.out).trans hg) s1 (Nat.le_refl _)) hk (by omega)
        · intro g e
          have e' : gg = g := Option.some.inj e
          subst e'
          rcases hat with h | h
          · exact .inl (by rw [OB.out]; exact h)
          · exact .inr (by omega)
      have qa : (W.alloc (.cells #[.int .i64 j, .int .i64 ver] 38)).cell? ⟨w.heap.size, 0, none⟩ = some (.slice ar xs.length cr) := (World.cell?_of_block (w := W) (a := ⟨w.heap.size, 0, none⟩) (heap_old _ _ _ (by show w.heap.size < _; omega))).trans q0
      go_wp2_with fail
      go_region_law ((refine step_append_lies _ (by rfl) _ _ _ (by rfl) B 38 i0 _ 2 16 Try.underlying27 hi0 hz0 hz1 hz2 rfl (by omega) (.slice ar xs.length cr) xs.length (flat xs) (by rfl) ((HRW.out.alloc _).drew) ⟨W.heap.size, 0, none⟩ 1 1 [.int .i64 j, .int .i64 ver] (by rfl) (by rfl) (World.news_of_block (cs := #[.int .i64 j, .int .i64 ver]) (t := 38) (fr := (0, 0)) (heap_alloc_new W _)) (by simp [Value.oneCell']) (by omega) hN.out hBy.out (by simp; omega) (W.heap.size + 1) (by simp) ?_; intro gg cap w1 hown1 hgrow hat hlt; have GW : W.grownBy w1 (Value.slice ar xs.length cr).ownBlock := World.grownBy.trans (grDrew (grAlloc (grR W _) _)) hgrow; have f0 : w1.frozen? ⟨w.heap.size, 0, none⟩ = false := frozen_heap (AFT.out w1 GW).1 0; have c0 : w1.cell? ⟨w.heap.size, 0, none⟩ = some (.slice ar xs.length cr) := (cell_heap (AFT.out w1 GW).1 0).trans rfl))
      all_goals
        obtain ⟨G0, G1, cv1, cl1⟩ := AFT.out w1 GW
        have c1 : w1.cell? ⟨w.heap.size, 1, none⟩ = some (.slice ap ys.length cp) := (cell_heap G0 1).trans rfl
        have c2 : w1.cell? ⟨w.heap.size, 2, none⟩ = some (.int .i64 v) := (cell_heap G0 2).trans rfl
        have c3 : w1.cell? ⟨w.heap.size, 3, none⟩ = some (.int .i64 k) := (cell_heap G0 3).trans rfl
        have y0 : w1.cell? ⟨w.heap.size + 1, 0, none⟩ = some (.slice none 0 0) := (cell_heap G1 0).trans rfl
        have y1 : w1.cell? ⟨w.heap.size + 1, 1, none⟩ = some (.slice none 0 0) := (cell_heap G1 1).trans rfl
        have y2 : w1.cell? ⟨w.heap.size + 1, 2, none⟩ = some (.int .i64 0) := (cell_heap G1 2).trans rfl
        have y3 : w1.cell? ⟨w.heap.size + 1, 3, none⟩ = some (.int .i64 0) := (cell_heap G1 3).trans rfl
        have fy : ∀ o, w1.frozen? ⟨w.heap.size + 1, o, none⟩ = false := fun o => frozen_heap G1 o
        have F2 := FIN2.out w1 gg cap GW hown1 hat
        have F3 : Hid _ := F2
        have bn : ¬ b = w.heap.size := by omega
        have bn' : ¬ w.heap.size = b := by omega
        clear G0 G1 hown1 hgrow hat hlt F2
        go_wp2
        go_region
        all_goals
          go_wp2
          refine bodyPost_ret (v := .tuple #[.int .i64 (inBox bs ys j), .agg #[.slice (some ⟨gg, 0, none⟩) (xs.length + 1) cap, .slice ap ys.length cp, .int .i64 v, .int .i64 k]]) (by simp [results, Try.results114, go_sem, y0, y1, y2, y3]) rfl ⟨_, rfl, ?_⟩
          rw [← HRV.out, ← HPV.out]
          refine F3.out _ ?_
          repeat (first | exact grR _ _ | apply grSet | apply grDrew | apply grDrewN)
end Go.Proofs.Ytiibonnchmphcaa.Own
