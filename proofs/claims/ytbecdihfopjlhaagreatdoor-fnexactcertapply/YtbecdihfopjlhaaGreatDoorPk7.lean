/-
  Own texts, bundled: Cells4, ExecFreshI, DoMath, CertMath.
-/
import Derived.Test.YtbecdihfopjlhaaGreatDoorPk1
import Derived.Test.YtbecdihfopjlhaaGreatDoorPk6
import Derived.Test.YtbecdihfopjlhaaGreatDoorPk5
import Derived.BigQuiet
import Derived.Deep.QuietTactic
import Derived.Deep.Cut
import Derived.Deep.CutRange
namespace Go.Proofs.YtbecdihfopjlhaaGreatDoor.Own
open Go.RowKit

def C4 (w : World) (b : Nat) (x0 x1 x2 x3 : Value) : Prop := b < w.heap.size ∧ w.cell? ⟨b, 0, none⟩ = some x0 ∧ w.cell? ⟨b, 1, none⟩ = some x1 ∧ w.cell? ⟨b, 2, none⟩ = some x2 ∧ w.cell? ⟨b, 3, none⟩ = some x3
theorem C4.below {w w' : World} {b : Nat} {x0 x1 x2 x3 : Value} (h : C4 w b x0 x1 x2 x3) (hb : Below w.heap.size w w') : C4 w' b x0 x1 x2 x3 := by
  have e : ∀ o, w'.cell? ⟨b, o, none⟩ = w.cell? ⟨b, o, none⟩ := fun o => hb.cell (p := ⟨b, o, none⟩) h.1
  refine ⟨Nat.lt_of_lt_of_le h.1 hb.size, ?_⟩
  rw [e, e, e, e]; exact h.2
theorem C4.new (w : World) (x0 x1 x2 x3 : Value) (t : TypeId) : C4 (w.alloc (.cells #[x0, x1, x2, x3] t)) w.heap.size x0 x1 x2 x3 := by
  refine ⟨by rw [size_new]; omega, ?_⟩
  rw [cell_heap (heap_new _ _), cell_heap (heap_new _ _), cell_heap (heap_new _ _), cell_heap (heap_new _ _)]
  exact ⟨rfl, rfl, rfl, rfl⟩
theorem C4.alloc {w : World} {b : Nat} {x0 x1 x2 x3 : Value} (h : C4 w b x0 x1 x2 x3) (o : Obj) : C4 (w.alloc o) b x0 x1 x2 x3 := h.below ((Below.refl _ _).alloc (Nat.le_refl _) _)
/-- What lay below a mark, and the block at it. -/
theorem below_new (w : World) (o : Obj) : Below w.heap.size w (w.alloc o) := (Below.refl _ _).alloc (Nat.le_refl _) _
end Go.Proofs.YtbecdihfopjlhaaGreatDoor.Own

namespace Go.Proofs.YtbecdihfopjlhaaGreatDoor.Own
open Go.RowKit
set_option linter.unusedVariables false
set_option linter.unusedSimpArgs false

def freshAt (bs : List P2) (p : P2) : Bool := (bs.getD p.1.toNat (0, 0)).1 == p.2
/-- Boxes are as a run saw them. -/
def execFresh (bs xs ys : List P2) (v k : Int) : Bool := boxOk bs && execOk xs ys v k && xs.all (freshAt bs)

theorem execOk_reads {xs ys : List P2} {v k : Int} (h : execOk xs ys v k = true) : okAll verOk xs = true := by
  simp only [execOk, Bool.and_eq_true] at h
  exact h.1.2
theorem execOk_puts {xs ys : List P2} {v k : Int} (h : execOk xs ys v k = true) : okAll numOk ys = true := by
  simp only [execOk, Bool.and_eq_true] at h
  exact h.2
theorem okAll_box {f : Int → Bool} {xs : List P2} (h : okAll f xs = true) (i : Nat) (hi : i < xs.length) : ∃ j : Nat, j < 4 ∧ (xs.getD i (0, 0)).1 = j := by
  have := okAll_iff.1 h i hi
  simp only [okAt, Bool.and_eq_true] at this
  exact regOk_nat this.1.1
theorem boxOk_len {bs : List P2} (h : boxOk bs = true) : bs.length = 4 := by
  simp only [boxOk, Bool.and_eq_true, beq_iff_eq] at h
  exact h.1

set_option maxRecDepth 100000 in
set_option maxHeartbeats 2000000 in
theorem implExecFresh (a : Option Addr) (c : Nat) (bs : List P2) (a1 a2 : Option Addr) (c1 c2 : Nat) (xs ys : List P2) (v k : Int) (w : World) (h0 : Sl w a bs) (hc : bs.length ≤ c) (h1 : Sl w a1 xs) (h2 : Sl w a2 ys) (hn1 : xs.length ≤ 2 ^ 40) (hn2 : ys.length ≤ 2 ^ 40) :
    Calls Tryz.prog 183 #[.slice a bs.length c, .agg #[.slice a1 xs.length c1, .slice a2 ys.length c2, .int .i64 v, .int .i64 k]] w fun e w' => e = .returned (.bool (execFresh bs xs ys v k)) ∧ Below w.heap.size w w' := by
  have H0 : Hid (Sl w a bs) := h0
  have H1 : Hid (Sl w a1 xs) := h1
  have H2 : Hid (Sl w a2 ys) := h2
  clear h0 h1 h2
  have E : Hid (execFresh bs xs ys v k = (boxOk bs && execOk xs ys v k && xs.all (freshAt bs))) := rfl
  obtain ⟨W, hW⟩ : ∃ W, W = w.alloc (.cells #[.slice a1 xs.length c1, .slice a2 ys.length c2, .int .i64 v, .int .i64 k] 37) := ⟨_, rfl⟩
  have BW : Hid (Below w.heap.size w W) := by show Below _ _ _; rw [hW]; exact below_new _ _
  have P0 : Hid (C4 W w.heap.size (.slice a1 xs.length c1) (.slice a2 ys.length c2) (.int .i64 v) (.int .i64 k)) := by show C4 _ _ _ _ _ _; rw [hW]; exact C4.new _ _ _ _ _ _
  have HW : Hid (W = _) := hW
  clear hW
  have CB := implOk a c bs W (H0.out.below BW.out) hc
  cases hb : boxOk bs with
  | false =>
    rw [hb] at CB
    have CB' : Hid _ := CB
    clear CB
    go_enter Tryz.func183, Tryz.ntmps183
    go_wp2_with fail
    rw [← HW.out]
    refine Calls.mono CB'.out ?_
    rintro e w1 ⟨rfl, b1⟩
    have B1 : Hid (Below w.heap.size w w1) := BW.out.trans (b1.mono BW.out.size)
    clear b1
    go_wp2_with fail
    go_ret
    exact ⟨ret_bool (by rw [E.out, hb]; rfl), B1.out⟩
  | true =>
    rw [hb] at CB
    have CB' : Hid _ := CB
    have HL : Hid (bs.length = 4) := boxOk_len hb
    have HBO : Hid (boxOk bs = true) := hb
    clear CB hb
    go_enter Tryz.func183, Tryz.ntmps183
    go_wp2_with fail
    rw [← HW.out]
    refine Calls.mono CB'.out ?_
    rintro e w1 ⟨rfl, b1⟩
    have B1 : Hid (Below W.heap.size W w1) := b1
    clear b1
    obtain ⟨_, q0, q1, q2, q3⟩ := P0.out.below B1.out
    have CE := implExecOk a1 a2 c1 c2 xs ys v k w1 ((H1.out.below BW.out).below B1.out) ((H2.out.below BW.out).below B1.out) hn1 hn2
    cases he : execOk xs ys v k with
    | false =>
      rw [he] at CE
      have CE' : Hid _ := CE
      clear CE
      go_wp2_with fail
      refine Calls.mono CE'.out ?_
      rintro e w2 ⟨rfl, b2⟩
      have B2 : Hid (Below w.heap.size w w2) := BW.out.trans ((B1.out.trans (b2.mono B1.out.size)).mono BW.out.size)
      clear b2
      go_wp2_with fail
      go_ret
      exact ⟨ret_bool (by rw [E.out, he]; simp), B2.out⟩
    | true =>
      rw [he] at CE
      have CE' : Hid _ := CE
      have E2 : Hid (execFresh bs xs ys v k = xs.all (freshAt bs)) := by show _ = _; rw [E.out, he, HBO.out]; rfl
      have HR : Hid (okAll verOk xs = true) := execOk_reads he
      clear CE he
      go_wp2_with fail
      refine Calls.mono CE'.out ?_
      rintro e w2 ⟨rfl, b2⟩
      have B2 : Hid (Below W.heap.size W w2) := B1.out.trans (b2.mono B1.out.size)
      clear b2 q0 q1 q2 q3
      obtain ⟨_, q0, _, _, _⟩ := P0.out.below B2.out
      go_wp2_with fail
      go_loopw [18] (fun i wr => ∃ j : Nat, j ≤ xs.length ∧ i = .int .i64 j ∧ Hid ((xs.take j).all (freshAt bs) = true) ∧ Below W.heap.size W wr) (fun i _ => xs.length - (intOf i).toNat)
      case atStart => exact ⟨0, Nat.zero_le _, rfl, rfl, B2.out⟩
      case round =>
        clear q0
        obtain ⟨j, hj, rfl, hA, hB⟩ := hrel
        have HB : Hid (Below W.heap.size W wr) := hB
        by_cases hlt : j < xs.length
        · rcases H1.out with h | ⟨b1, o1, rfl, h1⟩
          · subst h; simp at hlt
          have H1' : Hid (BoxAt wr b1 o1 xs) := (h1.below BW.out).below hB
          rcases H0.out with h | ⟨b0, o0, rfl, h0⟩
          · have := HL.out; subst h; simp at this
          have H0' : Hid (BoxAt wr b0 o0 bs) := (h0.below BW.out).below hB
          clear h1 h0 hB
          obtain ⟨p, hp⟩ : ∃ p, p = xs.getD j (0, 0) := ⟨_, rfl⟩
          obtain ⟨ca, cb⟩ := H1'.out.2 j hlt
          rw [← hp] at ca cb
          have HP : Hid (p = xs.getD j (0, 0)) := hp
          clear hp
          obtain ⟨p1, p2⟩ := p
          obtain ⟨m, hm, hm1⟩ := okAll_box HR.out j hlt
          rw [← HP.out] at hm1
          have hm2 : p1 = (m : Int) := hm1
          clear hm1
          subst hm2
          obtain ⟨x, hx⟩ : ∃ x, x = (bs.getD m (0, 0)).1 := ⟨_, rfl⟩
          have cx := (H0'.out.2 m (by rw [HL.out]; exact hm)).1
          rw [← hx] at cx
          have HF : Hid (freshAt bs (xs.getD j (0, 0)) = (x == p2)) := by show _ = _; rw [← HP.out, hx]; simp [freshAt]
          clear hx
          obtain ⟨X, hX⟩ : ∃ X, X = wr.alloc (.cells #[.int .i64 (m : Int), .int .i64 p2] 40) := ⟨_, rfl⟩
          have BX : Hid (Below W.heap.size W X) := by show Below _ _ _; rw [hX]; exact HB.out.alloc HB.out.size _
          have y0 : X.cell? ⟨wr.heap.size, 0, none⟩ = some (.int .i64 (m : Int)) := by rw [hX, cell_heap (heap_new _ _)]; rfl
          have y1 : X.cell? ⟨wr.heap.size, 1, none⟩ = some (.int .i64 p2) := by rw [hX, cell_heap (heap_new _ _)]; rfl
          have yx : X.cell? ⟨b0, o0 + m * 2, none⟩ = some (.int .i64 x) := by rw [hX, (below_new wr _).cell (p := ⟨b0, o0 + m * 2, none⟩) H0'.out.1]; exact cx
          have HX : Hid (X = _) := hX
          have hml : (m : Int) < (bs.length : Int) := by have := HL.out; omega
          clear hX cx
          go_upto_region 6 with fail
          rw [← HX.out]
          clear ca cb
          cases t : (x == p2) with
          | true =>
            have N : Hid ((xs.take (j + 1)).all (freshAt bs) = true) := by show _ = _; rw [all_take_succ (0, 0) hlt, hA.out, HF.out, t]; rfl
            have t' : (x != p2) = false := by simp [bne, t]
            go_quiet (fail)
            go_wp2
            go_roundw
            case rel => exact ⟨j + 1, by omega, by go_num, N, below_drewN BX.out _⟩
            case measure => simp [intOf]; omega
          | false =>
            have F : Hid (xs.all (freshAt bs) = false) := all_false (0, 0) hlt (by rw [HF.out]; exact t)
            have t' : (x != p2) = true := by simp [bne, t]
            go_quiet (fail)
            go_wp2
            go_ret
            exact ⟨ret_bool (by rw [E2.out]; exact F.out.symm), below_drewN (BW.out.trans (BX.out.mono BW.out.size)) _⟩
        · have h1 : j = xs.length := by omega
          have h2 := hA.out
          subst h1
          rw [List.take_length] at h2
          have HA : Hid (xs.all (freshAt bs) = true) := h2
          clear h2 hA hB
          go_wp2_with fail
          go_ret
          exact ⟨ret_bool (by rw [E2.out]; exact HA.out.symm), BW.out.trans (HB.out.mono BW.out.size)⟩
end Go.Proofs.YtbecdihfopjlhaaGreatDoor.Own

namespace Go.Proofs.YtbecdihfopjlhaaGreatDoor.Own
open Go.RowKit
set_option linter.unusedVariables false

theorem getD_set2 (xs : List P2) (i j : Nat) (v : P2) (hi : i < xs.length) : (xs.set i v).getD j (0, 0) = if i = j then v else xs.getD j (0, 0) := by
  simp only [List.getD_eq_getElem?_getD, List.getElem?_set]
  by_cases e : i = j
  · simp [e, show j < xs.length by omega]
  · simp [e]

/-- A put, done to boxes. -/
def put1 (bs : List P2) (p : P2) : List P2 := bs.set p.1.toNat (min 1000000 ((bs.getD p.1.toNat (0, 0)).1 + 1), p.2)
def doPuts (bs ys : List P2) : List P2 := ys.foldl put1 bs
def execDo (bs xs ys : List P2) (v k : Int) : List P2 := if boxOk bs && execOk xs ys v k then doPuts bs ys else []

theorem put1_length (bs : List P2) (p : P2) : (put1 bs p).length = bs.length := by simp [put1]
theorem doPuts_length (bs ys : List P2) : (doPuts bs ys).length = bs.length := by
  unfold doPuts
  induction ys generalizing bs with
  | nil => rfl
  | cons y r ih => rw [List.foldl_cons, ih, put1_length]
theorem doPuts_succ (bs ys : List P2) (j : Nat) (h : j < ys.length) : doPuts bs (ys.take (j + 1)) = put1 (doPuts bs (ys.take j)) (ys.getD j (0, 0)) := by
  unfold doPuts
  rw [List.take_succ_eq_append_getElem h, List.foldl_append]
  simp [List.getD, h]

theorem boxOk_iff {bs : List P2} : boxOk bs = true ↔ bs.length = 4 ∧ ∀ i, i < bs.length → boxOk1 (bs.getD i (0, 0)) = true := by
  simp only [boxOk, Bool.and_eq_true, beq_iff_eq, List.all_eq_true]
  constructor
  · rintro ⟨h, h2⟩
    exact ⟨h, fun i hi => h2 _ (by simp [List.getD, hi])⟩
  · rintro ⟨h, h2⟩
    refine ⟨h, fun x hx => ?_⟩
    obtain ⟨i, hi, rfl⟩ := List.getElem_of_mem hx
    simpa [List.getD, hi] using h2 i hi

theorem put1_ok {bs : List P2} {p : P2} (h : boxOk bs = true) (m : Nat) (hm : m < 4) (hp : p.1 = m) (hv : numOk p.2 = true) : boxOk (put1 bs p) = true := by
  have h' := boxOk_iff.1 h
  rw [boxOk_iff]
  refine ⟨by rw [put1_length]; exact h'.1, fun i hi => ?_⟩
  rw [put1_length] at hi
  have e : p.1.toNat = m := by omega
  unfold put1
  rw [e, getD_set2 _ _ _ _ (by omega)]
  by_cases e2 : m = i
  · rw [if_pos e2]
    have := h'.2 m (by omega)
    simp only [boxOk1, Bool.and_eq_true, decide_eq_true_eq] at this ⊢
    exact ⟨⟨by omega, by omega⟩, hv⟩
  · rw [if_neg e2]; exact h'.2 i hi
theorem doPuts_ok {bs ys : List P2} (h : boxOk bs = true) (hy : okAll numOk ys = true) : ∀ j, j ≤ ys.length → boxOk (doPuts bs (ys.take j)) = true
  | 0, _ => by simpa [doPuts] using h
  | j + 1, hj => by
    rw [doPuts_succ _ _ _ (by omega)]
    obtain ⟨m, hm, hp⟩ := okAll_box hy j (by omega)
    have := okAll_iff.1 hy j (by omega)
    simp only [okAt, Bool.and_eq_true] at this
    exact put1_ok (doPuts_ok h hy j (by omega)) m hm hp this.1.2
theorem boxOk_ver {bs : List P2} (h : boxOk bs = true) (i : Nat) (hi : i < 4) : 0 ≤ (bs.getD i (0, 0)).1 ∧ (bs.getD i (0, 0)).1 ≤ 1000000 := by
  have h' := boxOk_iff.1 h
  have := h'.2 i (by omega)
  simp only [boxOk1, Bool.and_eq_true, decide_eq_true_eq] at this
  exact this.1

theorem BoxAt.setBoth {w : World} {b off : Nat} {xs : List P2} (h : BoxAt w b off xs) (i : Nat) (hi : i < xs.length) (p q : Int) : BoxAt ((w.setCell ⟨b, off + i * 2, none⟩ (.int .i64 p)).setCell ⟨b, off + i * 2 + 1, none⟩ (.int .i64 q)) b off (xs.set i (p, q)) := by
  refine ⟨by simpa [World.setCell] using h.1, fun j hj => ?_⟩
  rw [List.length_set] at hj
  rw [getD_set2 _ _ _ _ hi]
  by_cases e : i = j
  · subst e
    rw [if_pos rfl]
    exact ⟨by rw [setCell_cell_other _ _ _ _ _ (by omega)]; exact setCell_cell_same _ _ _ _ _ (h.2 i hi).1, setCell_cell_same _ _ _ _ _ (by rw [setCell_cell_other _ _ _ _ _ (by omega)]; exact (h.2 i hi).2)⟩
  · rw [if_neg e, setCell_cell_other _ _ _ _ _ (by omega), setCell_cell_other _ _ _ _ _ (by omega), setCell_cell_other _ _ _ _ _ (by omega), setCell_cell_other _ _ _ _ _ (by omega)]
    exact h.2 j hj
end Go.Proofs.YtbecdihfopjlhaaGreatDoor.Own

namespace Go.Proofs.YtbecdihfopjlhaaGreatDoor.Own
open Go.RowKit
set_option linter.unusedVariables false

/-- The last request of a node without its name: its number, how it ended, what it says. -/
abbrev T3 := Int × Int × Int
def withWho (j : Int) (o : Option T3) : List Q4 := match o with
  | none => []
  | some t => [(j, t.1, t.2.1, t.2.2)]
/-- The requests of the three nodes, by their nodes. -/
def listM (m : Nat → Option T3) : List Q4 := withWho 0 (m 0) ++ withWho 1 (m 1) ++ withWho 2 (m 2)
def setM (m : Nat → Option T3) (j : Nat) (t : T3) : Nat → Option T3 := fun i => if i = j then some t else m i
def okT (t : T3) : Bool := decide (1 ≤ t.1) && decide (t.1 ≤ 1000) && codeOk t.2.1 t.2.2
def okM (m : Nat → Option T3) : Prop := ∀ j t, j < 3 → m j = some t → okT t = true

def srt : Int → List Q4 → Prop
  | _, [] => True
  | l, d :: r => doneOk d = true ∧ l ≤ d.1 ∧ srt (d.1 + 1) r
theorem srt_of_ok {ds : List Q4} (h : donesOkD ds = true) : srt 0 ds := by
  have key : ∀ n, n ≤ ds.length → srt (leastD ds (ds.length - n)) (ds.drop (ds.length - n)) := by
    intro n
    induction n with
    | zero => intro _; rw [Nat.sub_zero, List.drop_length]; exact trivial
    | succ n ih =>
      intro hn
      have hi : ds.length - (n + 1) < ds.length := by omega
      have hd := donesOkD_iff.1 h _ hi
      simp only [doneAt, Bool.and_eq_true, Bool.not_eq_true', decide_eq_false_iff_not] at hd
      rw [List.drop_eq_getElem_cons hi]
      have e : ds[ds.length - (n + 1)] = ds.getD (ds.length - (n + 1)) q0 := by simp [List.getD, hi]
      rw [e]
      refine ⟨hd.1, by omega, ?_⟩
      have := ih (by omega)
      rw [show ds.length - n = ds.length - (n + 1) + 1 by omega] at this
      have el : leastD ds (ds.length - (n + 1) + 1) = (ds.getD (ds.length - (n + 1)) q0).1 + 1 := by simp [leastD]
      rw [el] at this
      exact this
  have := key ds.length (Nat.le_refl _)
  rw [Nat.sub_self] at this
  exact this

theorem doneOk_parts {d : Q4} (h : doneOk d = true) : 0 ≤ d.1 ∧ d.1 < 3 ∧ okT (d.2.1, d.2.2.1, d.2.2.2) = true := by
  simp only [doneOk, reqOk, okT, Bool.and_eq_true, decide_eq_true_eq] at h ⊢
  exact ⟨h.1.1.1.1, h.1.1.1.2, ⟨h.1.1.2, h.1.2⟩, h.2⟩
theorem doneOk_of {j : Nat} {t : T3} (hj : j < 3) (h : okT t = true) : doneOk ((j : Int), t.1, t.2.1, t.2.2) = true := by
  simp only [doneOk, reqOk, okT, Bool.and_eq_true, decide_eq_true_eq] at h ⊢
  exact ⟨⟨⟨⟨by omega, by omega⟩, h.1.1⟩, h.1.2⟩, h.2⟩

theorem srt_three {ds : List Q4} (h : srt 3 ds) : ds = [] := by
  cases ds with
  | nil => rfl
  | cons d r =>
    obtain ⟨h1, h2, _⟩ := h
    have := doneOk_parts h1
    omega
theorem srt_two {ds : List Q4} (h : srt 2 ds) : ∃ o, (∀ t, o = some t → okT t = true) ∧ ds = withWho 2 o := by
  cases ds with
  | nil => exact ⟨none, by simp, rfl⟩
  | cons d r =>
    obtain ⟨h1, h2, h3⟩ := h
    obtain ⟨p1, p2, p3⟩ := doneOk_parts h1
    obtain ⟨d1, d2, d3, d4⟩ := d
    have e : d1 = 2 := by simp only at p2 h2; omega
    subst e
    rw [srt_three h3]
    exact ⟨some (d2, d3, d4), by intro t e; injection e with e; subst e; exact p3, rfl⟩
theorem srt_one {ds : List Q4} (h : srt 1 ds) : ∃ o1 o2, (∀ t, o1 = some t → okT t = true) ∧ (∀ t, o2 = some t → okT t = true) ∧ ds = withWho 1 o1 ++ withWho 2 o2 := by
  cases ds with
  | nil => exact ⟨none, none, by simp, by simp, rfl⟩
  | cons d r =>
    obtain ⟨h1, h2, h3⟩ := h
    obtain ⟨p1, p2, p3⟩ := doneOk_parts h1
    obtain ⟨d1, d2, d3, d4⟩ := d
    simp only at p1 p2 h2 h3
    by_cases e : d1 = 1
    · subst e
      obtain ⟨o, ho, rfl⟩ := srt_two h3
      exact ⟨some (d2, d3, d4), o, by intro t e; injection e with e; subst e; exact p3, ho, rfl⟩
    · have e : d1 = 2 := by omega
      subst e
      rw [srt_three h3]
      exact ⟨none, some (d2, d3, d4), by simp, by intro t e; injection e with e; subst e; exact p3, rfl⟩
theorem srt_zero {ds : List Q4} (h : srt 0 ds) : ∃ o0 o1 o2, (∀ t, o0 = some t → okT t = true) ∧ (∀ t, o1 = some t → okT t = true) ∧ (∀ t, o2 = some t → okT t = true) ∧ ds = withWho 0 o0 ++ withWho 1 o1 ++ withWho 2 o2 := by
  cases ds with
  | nil => exact ⟨none, none, none, by simp, by simp, by simp, rfl⟩
  | cons d r =>
    obtain ⟨h1, h2, h3⟩ := h
    obtain ⟨p1, p2, p3⟩ := doneOk_parts h1
    obtain ⟨d1, d2, d3, d4⟩ := d
    simp only at p1 p2 h2 h3
    by_cases e : d1 = 0
    · subst e
      obtain ⟨o1, o2, i1, i2, rfl⟩ := srt_one h3
      exact ⟨some (d2, d3, d4), o1, o2, by intro t e; injection e with e; subst e; exact p3, i1, i2, rfl⟩
    · by_cases e : d1 = 1
      · subst e
        obtain ⟨o2, i2, rfl⟩ := srt_two h3
        exact ⟨none, some (d2, d3, d4), o2, by simp, by intro t e; injection e with e; subst e; exact p3, i2, rfl⟩
      · have e : d1 = 2 := by omega
        subst e
        rw [srt_three h3]
        exact ⟨none, none, some (d2, d3, d4), by simp, by simp, by intro t e; injection e with e; subst e; exact p3, rfl⟩

/-- Requests that are right are the requests of three nodes. -/
theorem dones_listM {ds : List Q4} (h : donesOkD ds = true) : ∃ m, okM m ∧ ds = listM m ∧ (∀ j, 3 ≤ j → m j = none) := by
  obtain ⟨o0, o1, o2, h0, h1, h2, rfl⟩ := srt_zero (srt_of_ok h)
  refine ⟨fun i => if i = 0 then o0 else if i = 1 then o1 else if i = 2 then o2 else none, ?_, rfl, fun j hj => ?_⟩
  · intro j t hj e
    simp only at e
    by_cases e0 : j = 0
    · rw [if_pos e0] at e; exact h0 t e
    · rw [if_neg e0] at e
      by_cases e1 : j = 1
      · rw [if_pos e1] at e; exact h1 t e
      · rw [if_neg e1, if_pos (by omega)] at e; exact h2 t e
  · simp only
    rw [if_neg (by omega), if_neg (by omega), if_neg (by omega)]

theorem setM_same (m : Nat → Option T3) (j : Nat) (t : T3) : setM m j t j = some t := by simp [setM]
theorem setM_other (m : Nat → Option T3) {j i : Nat} (t : T3) (h : i ≠ j) : setM m j t i = m i := by simp [setM, h]
theorem okM.set {m : Nat → Option T3} (h : okM m) {j : Nat} {t : T3} (ht : okT t = true) : okM (setM m j t) := by
  intro i u hi e
  by_cases hij : i = j
  · subst hij; rw [setM_same] at e; injection e with e; subst e; exact ht
  · rw [setM_other _ _ hij] at e; exact h i u hi e

theorem listM_len (m : Nat → Option T3) : (listM m).length ≤ 3 := by
  unfold listM
  cases m 0 <;> cases m 1 <;> cases m 2 <;> simp [withWho]

theorem listM_ok {m : Nat → Option T3} (h : okM m) : donesOkD (listM m) = true := by
  have d0 := fun t e => doneOk_of (j := 0) (by omega) (h 0 t (by omega) e)
  have d1 := fun t e => doneOk_of (j := 1) (by omega) (h 1 t (by omega) e)
  have d2 := fun t e => doneOk_of (j := 2) (by omega) (h 2 t (by omega) e)
  unfold listM
  rw [donesOkD_iff]
  cases e0 : m 0 <;> cases e1 : m 1 <;> cases e2 : m 2 <;> intro i hi <;> simp only [withWho, List.nil_append, List.append_nil, List.cons_append, List.length_cons, List.length_nil] at hi ⊢
  · omega
  · obtain rfl : i = 0 := by omega
    simpa [doneAt, leastD] using d2 _ e2
  · obtain rfl : i = 0 := by omega
    simpa [doneAt, leastD] using d1 _ e1
  · rcases (by omega : i = 0 ∨ i = 1) with rfl | rfl
    · simpa [doneAt, leastD] using d1 _ e1
    · simpa [doneAt, leastD] using d2 _ e2
  · obtain rfl : i = 0 := by omega
    simpa [doneAt, leastD] using d0 _ e0
  · rcases (by omega : i = 0 ∨ i = 1) with rfl | rfl
    · simpa [doneAt, leastD] using d0 _ e0
    · simpa [doneAt, leastD] using d2 _ e2
  · rcases (by omega : i = 0 ∨ i = 1) with rfl | rfl
    · simpa [doneAt, leastD] using d0 _ e0
    · simpa [doneAt, leastD] using d1 _ e1
  · rcases (by omega : i = 0 ∨ i = 1 ∨ i = 2) with rfl | rfl | rfl
    · simpa [doneAt, leastD] using d0 _ e0
    · simpa [doneAt, leastD] using d1 _ e1
    · simpa [doneAt, leastD] using d2 _ e2

/-- How an entry ends. -/
def judgeR (bs xs ys : List P2) (v k : Int) : Int := if execFresh bs xs ys v k then (if k = 0 then 0 else 2) else 1
def verdict (bs : List P2) (m : Nat → Option T3) (n : Bool) (p q : Int) (xs ys : List P2) (v k : Int) : Int :=
  if n then 5 else match m p.toNat with
  | some t => if t.1 = q then 3 else if q < t.1 then 4 else judgeR bs xs ys v k
  | none => judgeR bs xs ys v k
/-- What there is behind an entry that ended so. -/
def boxesBy (c : Int) (bs ys : List P2) : List P2 := if c = 0 then doPuts bs ys else bs
def keptBy (c : Int) (m : Nat → Option T3) (p q v : Int) : Nat → Option T3 := if c < 3 then setM m p.toNat (q, c, if c = 0 then v else 0) else m

theorem judgeR_range (bs xs ys : List P2) (v k : Int) : 0 ≤ judgeR bs xs ys v k ∧ judgeR bs xs ys v k ≤ 2 := by
  unfold judgeR
  split
  · split <;> omega
  · omega
theorem verdict_range (bs : List P2) (m : Nat → Option T3) (n : Bool) (p q : Int) (xs ys : List P2) (v k : Int) : 0 ≤ verdict bs m n p q xs ys v k ∧ verdict bs m n p q xs ys v k ≤ 5 := by
  unfold verdict
  have := judgeR_range bs xs ys v k
  split
  · omega
  · split
    · split
      · omega
      · split <;> omega
    · omega
end Go.Proofs.YtbecdihfopjlhaaGreatDoor.Own
