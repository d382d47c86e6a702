/-
  Own texts, bundled: ExecDoS2, LedKeep, LedSeen.
-/
import Derived.Test.YtbecdihfopjlhaaGreatDoorPk19
import Derived.Test.YtbecdihfopjlhaaGreatDoorPk7
import Derived.Test.YtbecdihfopjlhaaGreatDoorPk9
import Derived.StillTailTactics
import Derived.Test.YtbecdihfopjlhaaGreatDoorPk18
namespace Go.Proofs.YtbecdihfopjlhaaGreatDoor.Own
open Go.RowKit
set_option linter.unusedVariables false
set_option linter.unusedSimpArgs false

theorem region_still_tail {P : Program} {id : Nat} {Q : Exit → Act → World → Prop} {a : Act} {w : World} {l : List Oper} (n : Nat) (hm : P.follows .mixedOrders = true) (hB : Region.lexTailB .any l.toArray n = true)
    (h : wpStill P l.toArray w.drew (fun a' => wpList P l.toArray Q (l.drop n) a' w.drew) (l.take n) a) : (Code.region id l.toArray true).wp P Q a w := wp_region_still_tail n hm hB h

set_option maxRecDepth 100000 in
set_option maxHeartbeats 2000000 in
theorem l3Do (g cap : Nat) (bs : List P2) (a1 a2 : Option Addr) (n1 c1 c2 : Nat) (ys : List P2) (v k : Int) (w : World) (hbs : boxOk bs = true) (hat : BoxAt w g 0 bs) (hfr : ∀ o, w.frozen? ⟨g, o, none⟩ = false) (h2 : Sl w a2 ys) (hg : ys = [] ∨ ∀ x, a2 = some x → x.block ≠ g) (hn2 : ys.length ≤ 2 ^ 40) (hy : okAll numOk ys = true) :
    Calls Tryz.prog 89 #[.slice (some ⟨g, 0, none⟩) 4 cap, .agg #[.slice a1 n1 c1, .slice a2 ys.length c2, .int .i64 v, .int .i64 k]] w fun e w' => e = .returned (.slice (some ⟨g, 0, none⟩) 4 cap) ∧ BoxAt w' g 0 (doPuts bs ys) ∧ (∀ o, w'.frozen? ⟨g, o, none⟩ = false) ∧ Bar g w w' := by
  have HA : Hid (BoxAt w g 0 bs) := hat
  have HF : Hid (∀ o, w.frozen? ⟨g, o, none⟩ = false) := hfr
  have H2 : Hid (Sl w a2 ys) := h2
  have HG : Hid (ys = [] ∨ ∀ x, a2 = some x → x.block ≠ g) := hg
  have HY : Hid (okAll numOk ys = true) := hy
  have HBO : Hid (boxOk bs = true) := hbs
  have HL : Hid (bs.length = 4) := boxOk_len hbs
  clear hat hfr h2 hg hy hbs
  obtain ⟨W, hW⟩ : ∃ W, W = w.alloc (.cells #[.slice a1 n1 c1, .slice a2 ys.length c2, .int .i64 v, .int .i64 k] 37) := ⟨_, rfl⟩
  have BW : Hid (Below w.heap.size w W) := by show Below _ _ _; rw [hW]; exact below_new _ _
  have P0 : Hid (C4 W w.heap.size (.slice a1 n1 c1) (.slice a2 ys.length c2) (.int .i64 v) (.int .i64 k)) := by show C4 _ _ _ _ _ _; rw [hW]; exact C4.new _ _ _ _ _ _
  have HW : Hid (W = _) := hW
  clear hW
  have hgw : g < w.heap.size := HA.out.1
  obtain ⟨_, q0, q1, q2, q3⟩ := P0.out
  go_enter Tryz.func89, Tryz.ntmps89
  go_upto_region 1 with fail
  rw [← HW.out]
  go_wp2_with fail
  clear q0 q1 q2 q3
  go_loopw [5, 6] (fun i b wr => ∃ j : Nat, j ≤ ys.length ∧ i = .int .i64 j ∧ BoxAt wr g 0 (doPuts bs (ys.take j)) ∧ (∀ o, wr.frozen? ⟨g, o, none⟩ = false) ∧ Bar g W wr) (fun i _ _ => ys.length - (intOf i).toNat)
  case atStart => exact ⟨0, Nat.zero_le _, rfl, by simpa [doPuts] using HA.out.below BW.out, fun o => by rw [BW.out.frozen (p := ⟨g, o, none⟩) hgw]; exact HF.out o, Bar.refl _ _⟩
  case round =>
    obtain ⟨j, hj, rfl, hA, hF, hB⟩ := hrel
    have HAt : Hid (BoxAt wr g 0 (doPuts bs (ys.take j))) := hA
    have HFr : Hid (∀ o, wr.frozen? ⟨g, o, none⟩ = false) := hF
    have HB : Hid (Bar g W wr) := hB
    have hc : ∀ o, wr.cell? ⟨w.heap.size, o, none⟩ = W.cell? ⟨w.heap.size, o, none⟩ := fun o => World.cell?_of_block (w := W) (a := ⟨w.heap.size, o, none⟩) (hB.block w.heap.size P0.out.1 (by omega))
    have q1 : wr.cell? ⟨w.heap.size, 1, none⟩ = some (.slice a2 ys.length c2) := by rw [hc]; exact P0.out.2.2.1
    clear hA hF hc
    by_cases hlt : j < ys.length
    · rcases H2.out with h | ⟨b1, o1, rfl, h1⟩
      · subst h; simp at hlt
      have hb1 : b1 ≠ g := by
        rcases HG.out with h | h
        · subst h; simp at hlt
        · exact h _ rfl
      have H1' : Hid (BoxAt wr b1 o1 ys) := by
        have h := h1.below BW.out
        have hc : ∀ o, wr.cell? ⟨b1, o, none⟩ = W.cell? ⟨b1, o, none⟩ := fun o => World.cell?_of_block (w := W) (a := ⟨b1, o, none⟩) (hB.block b1 h.1 hb1)
        exact ⟨Nat.lt_of_lt_of_le h.1 hB.size, fun i hi => by rw [hc, hc]; exact h.2 i hi⟩
      clear h1 hB
      obtain ⟨p, hp⟩ : ∃ p, p = ys.getD j (0, 0) := ⟨_, rfl⟩
      obtain ⟨ca, cb⟩ := H1'.out.2 j hlt
      rw [← hp] at ca cb
      have HP : Hid (p = ys.getD j (0, 0)) := hp
      clear hp
      obtain ⟨p1, p2⟩ := p
      obtain ⟨m, hm, hm1⟩ := okAll_box HY.out j hlt
      rw [← HP.out] at hm1
      have hm2 : p1 = (m : Int) := hm1
      clear hm1
      subst hm2
      have OKj := doPuts_ok HBO.out HY.out j hj
      have hver := boxOk_ver OKj m hm
      have hlen : (doPuts bs (ys.take j)).length = 4 := by rw [doPuts_length]; exact HL.out
      have HS : Hid (doPuts bs (ys.take (j + 1)) = (doPuts bs (ys.take j)).set m (min 1000000 (((doPuts bs (ys.take j)).getD m (0, 0)).1 + 1), p2)) := by
        show _ = _
        rw [doPuts_succ _ _ _ hlt, ← HP.out]
        rfl
      generalize doPuts bs (ys.take j) = cur at HAt HS hver hlen
      have HLn : Hid (cur.length = 4) := hlen
      have cx := (HAt.out.2 m (by rw [hlen]; exact hm)).1
      have cy := (HAt.out.2 m (by rw [hlen]; exact hm)).2
      have HN : Hid (BoxAt ((wr.setCell ⟨g, 0 + m * 2, none⟩ (.int .i64 (min 1000000 ((cur.getD m (0, 0)).1 + 1)))).setCell ⟨g, 0 + m * 2 + 1, none⟩ (.int .i64 p2)) g 0 (doPuts bs (ys.take (j + 1)))) := by
        show BoxAt _ _ _ _
        rw [HS.out]; exact HAt.out.setBoth m (by rw [hlen]; exact hm) _ _
      obtain ⟨x, hx⟩ : ∃ x, x = (cur.getD m (0, 0)).1 := ⟨_, rfl⟩
      rw [← hx] at cx hver HN
      have f0 := HFr.out (m * 2)
      have f1 := HFr.out (m * 2 + 1)
      simp only [Nat.zero_add] at cx cy HN
      obtain ⟨y, hy⟩ : ∃ y, y = (cur.getD m (0, 0)).2 := ⟨_, rfl⟩
      rw [← hy] at cy
      clear hx hy hlen
      obtain ⟨hv0, hv1⟩ := hver
      have hne : ¬ g = w.heap.size := by omega
      have hne2 : ¬ g = b1 := fun e => hb1 e.symm
      obtain ⟨z, hz⟩ : ∃ z, z = min 1000000 (x + 1) := ⟨_, rfl⟩
      have HZ : Hid (∀ W, Calls Tryz.prog 116 #[.int .i64 1000000, .int .i64 (x + 1)] W fun e w' => e = .returned (.int .i64 z) ∧ w' = W) := fun W => by rw [hz]; exact l1MinC _ _ _
      rw [← hz] at HN
      clear hz
      have HBz : Hid (Bar g W ((wr.setCell ⟨g, m * 2, none⟩ (.int .i64 z)).setCell ⟨g, m * 2 + 1, none⟩ (.int .i64 p2))) := HB.out.trans (Bar.ofOnly (((Only.refl g wr).setCell _).setCell _))
      have HFz : Hid (∀ o, ((wr.setCell ⟨g, m * 2, none⟩ (.int .i64 z)).setCell ⟨g, m * 2 + 1, none⟩ (.int .i64 p2)).frozen? ⟨g, o, none⟩ = false) := fun o => by simpa using HFr.out o
      have hw1 : IntKind.i64.wrap (x + 1) = x + 1 := by
        rw [IntKind.wrap_i64]; omega
      have hmi : (m : Int) < 4 := by omega
      have hji : (j : Int) < (ys.length : Int) := by omega
      go_upto_region 5 with fail
      refine region_still_tail 16 (by kernel_rfl) (by kernel_rfl) ?_
      simp only [List.take_succ_cons, List.take_zero, List.drop_succ_cons, List.drop_zero]
      iterate 8 still_step
      still_call (HZ.out _)
      iterate 7 still_step
      refine wpStill_nil ?_
      go_wp2
      go_roundw
      case rel => exact ⟨j + 1, by omega, by go_num, HN.out, HFz.out, HBz.out.os, HBz.out.tape, HBz.out.output, HBz.out.size, HBz.out.block⟩
      case measure => simp [intOf]; omega
    · have hjl : j = ys.length := by omega
      subst hjl
      rw [List.take_length] at HAt
      clear hB
      go_wp2
      go_ret
      refine ⟨rfl, HAt.out, HFr.out, ?_⟩
      exact (Bar.ofBelow BW.out).trans HB.out
end Go.Proofs.YtbecdihfopjlhaaGreatDoor.Own

namespace Go.Proofs.YtbecdihfopjlhaaGreatDoor.Own
open Go.RowKit Go.Maps
set_option linter.unusedVariables false
set_option linter.unusedSimpArgs false

theorem set_delM (m : Nat → Option T3) (j : Nat) (t : T3) : setM (delM m j) j t = setM m j t := by
  funext i
  unfold setM delM
  by_cases h : i = j <;> simp [h]
theorem okM.del {m : Nat → Option T3} (h : okM m) (j : Nat) : okM (delM m j) := by
  intro i t hi e
  unfold delM at e
  split at e
  · cases e
  · exact h i t hi e
theorem delM_same (m : Nat → Option T3) (j : Nat) : delM m j j = none := by simp [delM]

set_option maxRecDepth 100000 in
set_option maxHeartbeats 4000000 in
theorem ledKeep (b bm N : Nat) (m : Nat → Option T3) (j : Nat) (t : T3) (w : World) (hm : okM m) (hj : j < 3) (ht : (Lit.int .i64 t.1).wf = true) (hN : N ≤ 900) (hb : w.cell? ⟨b, 9, none⟩ = some (.map (some bm))) (hlt : b < w.heap.size) (hne : bm ≠ b) (h : MapM w bm N m) :
    Calls Tryz.prog 76 #[.pointer (some ⟨b, 0, none⟩), .agg #[.int .i64 (j : Int), .int .i64 t.1], .agg #[.int .i64 t.2.1, .int .i64 t.2.2]] w fun e w' => e = .returned (.tuple #[]) ∧ MapM w' bm (N + 1) (setM m j t) ∧ Turned [bm] w w' := by
  obtain ⟨t1, t2, t3⟩ := t
  simp only at ht ⊢
  obtain ⟨W, hW⟩ : ∃ W, W = (w.alloc (.cells #[.int .i64 (j : Int), .int .i64 t1] 46)).alloc (.cells #[.int .i64 t2, .int .i64 t3] 139) := ⟨_, rfl⟩
  have BW : Hid (Below w.heap.size w W) := by show Below _ _ _; rw [hW]; exact ((Below.refl _ _).alloc (Nat.le_refl _) _).alloc (by simp) _
  have QW : Hid (Blk W w.heap.size #[.int .i64 (j : Int), .int .i64 t1] 46) := by show Blk _ _ _ _; rw [hW]; exact (Blk.new _ _ _).alloc _
  have EW : Hid (Blk W (w.heap.size + 1) #[.int .i64 t2, .int .i64 t3] 139) := by show Blk _ _ _ _; rw [hW]; exact Blk.new2 _ _ _ _
  have MW : Hid (MapM W bm N m) := h.block (BW.out.block bm h.lt)
  have CW : Hid (W.cell? ⟨b, 9, none⟩ = some (.map (some bm))) := by show _ = _; rw [BW.out.cell (p := ⟨b, 9, none⟩) hlt]; exact hb
  have HLT : Hid (b < W.heap.size ∧ bm < w.heap.size) := ⟨Nat.lt_of_lt_of_le hlt BW.out.size, h.lt⟩
  have HT : Hid ((Lit.int .i64 t1).wf = true) := ht
  have HM : Hid (okM m) := hm
  have HW : Hid (W = _) := hW
  clear hW h hb ht hm
  -- a world in which nothing but new blocks has come since, and what there is in it
  have AT : Hid (∀ V : World, Below W.heap.size W V → MapM V bm N m ∧ V.cell? ⟨b, 9, none⟩ = some (.map (some bm)) ∧ Blk V w.heap.size #[.int .i64 (j : Int), .int .i64 t1] 46 ∧ Blk V (w.heap.size + 1) #[.int .i64 t2, .int .i64 t3] 139) := fun V hb =>
    ⟨MW.out.block (hb.block bm MW.out.lt), by rw [hb.cell (p := ⟨b, 9, none⟩) HLT.out.1]; exact CW.out, QW.out.keep hb, EW.out.keep hb⟩
  have LL : Hid (Calls Tryz.prog 81 #[.pointer (some ⟨b, 0, none⟩), .int .i64 (j : Int)] W fun e w' => e = .returned (.tuple #[.agg #[.int .i64 (lastReq m j).1, .int .i64 (lastReq m j).2], .bool (m j).isSome]) ∧ Below W.heap.size W w') := ledLast b bm N m j W HM.out hj CW.out HLT.out.1 MW.out
  obtain ⟨q0, q1⟩ := QW.out.cells2
  cases hmj : m j with
  | some u =>
    have lr : lastReq m j = ((j : Int), u.1) := by unfold lastReq; rw [hmj]
    rw [lr, hmj] at LL
    have HMJ : Hid (m j = some u) := hmj
    clear lr hmj
    obtain ⟨u1, u2, u3⟩ := u
    simp only [Option.isSome_some] at LL
    go_enter Tryz.func76, Tryz.ntmps76
    go_wp2_with fail
    rw [← HW.out]
    refine Calls.mono LL.out ?_
    rintro e w1 ⟨rfl, hb1⟩
    obtain ⟨X, hX⟩ : ∃ X, X = w1.alloc (.cells #[.int .i64 (j : Int), .int .i64 u1] 46) := ⟨_, rfl⟩
    have bX : Below W.heap.size W X := by rw [hX]; exact hb1.alloc hb1.size _
    have LX : Hid (Blk X w1.heap.size #[.int .i64 (j : Int), .int .i64 u1] 46) := by show Blk _ _ _ _; rw [hX]; exact Blk.new _ _ _
    obtain ⟨mX, cX, qX, eX⟩ := AT.out X bX
    obtain ⟨w4, hdel, m4, t4⟩ := MapM.drop (w := X.drew) (mX.block rfl) HM.out j hj (u1, u2, u3) HMJ.out 0
    simp only at hdel
    have T4 := mapTurned.turned t4
    have c4 : w4.cell? ⟨b, 9, none⟩ = some (.map (some bm)) := (World.cell?_of_block (w := X.drew) (a := ⟨b, 9, none⟩) (T4.block b (Nat.lt_of_lt_of_le HLT.out.1 bX.size) (by simp; exact fun e => hne e.symm))).trans cX
    have wsz := BW.out.size
    have nbm := HLT.out.2
    have q4 : Blk w4 w.heap.size #[.int .i64 (j : Int), .int .i64 t1] 46 := by show w4.heap[w.heap.size]? = _; rw [T4.block _ qX.lt (by simp; omega)]; exact qX
    have e4 : Blk w4 (w.heap.size + 1) #[.int .i64 t2, .int .i64 t3] 139 := by show w4.heap[w.heap.size + 1]? = _; rw [T4.block _ eX.lt (by simp; omega)]; exact eX
    obtain ⟨w5, hput, m5, t5⟩ := MapM.put (w := w4.drew) (m4.block rfl) (HM.out.del j) (by omega) j hj (delM_same m j) (t1, t2, t3) HT.out
    simp only at hput
    rw [set_delM] at m5
    have T5 := mapTurned.turned t5
    have FF : Hid (MapM w5 bm (N + 1) (setM m j (t1, t2, t3)) ∧ Turned [bm] w w5) := ⟨m5, by
      have a : Turned [bm] w X := Turned.ofBelow (BW.out.trans (bX.mono BW.out.size))
      have d1 : Turned [bm] X X.drew := ⟨rfl, rfl, rfl, Nat.le_refl _, fun _ _ _ => rfl⟩
      have d2 : Turned [bm] w4 w4.drew := ⟨rfl, rfl, rfl, Nat.le_refl _, fun _ _ _ => rfl⟩
      exact (((a.trans d1).trans T4).trans d2).trans T5⟩
    obtain ⟨l0, l1⟩ := LX.out.cells2
    obtain ⟨q0', q1'⟩ := q4.cells2
    obtain ⟨e0', e1'⟩ := e4.cells2
    have HX : Hid (X = _) := hX
    clear hX hb1 bX mX qX eX m4 t4 m5 t5 T4 T5 q4 e4 AT LL q0 q1 BW QW EW MW
    go_upto_region 3 with fail
    rw [← HX.out]
    refine region_still_tail 5 (by kernel_rfl) (by kernel_rfl) ?_
    simp only [List.take_succ_cons, List.take_zero, List.drop_succ_cons, List.drop_zero]
    iterate 5 still_step
    refine wpStill_nil ?_
    go_wp2
    refine region_still_tail 6 (by kernel_rfl) (by kernel_rfl) ?_
    simp only [List.take_succ_cons, List.take_zero, List.drop_succ_cons, List.drop_zero]
    iterate 6 still_step
    refine wpStill_nil ?_
    go_wp2
    go_end0
    exact ⟨rfl, FF.out⟩
  | none =>
    have lr : lastReq m j = (0, 0) := by unfold lastReq; rw [hmj]
    rw [lr, hmj] at LL
    have HMJ : Hid (m j = none) := hmj
    clear lr hmj
    simp only [Option.isSome_none] at LL
    go_enter Tryz.func76, Tryz.ntmps76
    go_wp2_with fail
    rw [← HW.out]
    refine Calls.mono LL.out ?_
    rintro e w1 ⟨rfl, hb1⟩
    obtain ⟨X, hX⟩ : ∃ X, X = w1.alloc (.cells #[.int .i64 0, .int .i64 0] 46) := ⟨_, rfl⟩
    have bX : Below W.heap.size W X := by rw [hX]; exact hb1.alloc hb1.size _
    obtain ⟨mX, cX, qX, eX⟩ := AT.out X bX
    obtain ⟨w5, hput, m5, t5⟩ := MapM.put (w := X.drew) (mX.block rfl) HM.out (by omega) j hj HMJ.out (t1, t2, t3) HT.out
    simp only at hput
    have T5 := mapTurned.turned t5
    have FF : Hid (MapM w5 bm (N + 1) (setM m j (t1, t2, t3)) ∧ Turned [bm] w w5) := ⟨m5, by
      have a : Turned [bm] w X := Turned.ofBelow (BW.out.trans (bX.mono BW.out.size))
      have d1 : Turned [bm] X X.drew := ⟨rfl, rfl, rfl, Nat.le_refl _, fun _ _ _ => rfl⟩
      exact (a.trans d1).trans T5⟩
    obtain ⟨q0', q1'⟩ := qX.cells2
    obtain ⟨e0', e1'⟩ := eX.cells2
    have HX : Hid (X = _) := hX
    clear hX hb1 bX mX qX eX m5 t5 T5 AT LL q0 q1 BW QW EW MW
    go_upto_region 4 with fail
    rw [← HX.out]
    refine region_still_tail 6 (by kernel_rfl) (by kernel_rfl) ?_
    simp only [List.take_succ_cons, List.take_zero, List.drop_succ_cons, List.drop_zero]
    iterate 6 still_step
    refine wpStill_nil ?_
    go_wp2
    go_end0
    exact ⟨rfl, FF.out⟩
end Go.Proofs.YtbecdihfopjlhaaGreatDoor.Own

namespace Go.Proofs.YtbecdihfopjlhaaGreatDoor.Own
open Go.RowKit Go.Maps
set_option linter.unusedVariables false
set_option linter.unusedSimpArgs false

/-- Why a request is not new: v3 where it is the last one already, v4 where there is a later one. -/
def seenV (m : Nat → Option T3) (j : Nat) (s : Int) (v3 v4 : Value) : Value := match m j with
  | some t => if t.1 = s then v3 else if s < t.1 then v4 else .nilIface
  | none => .nilIface

set_option maxRecDepth 100000 in
set_option maxHeartbeats 4000000 in
theorem ledSeen (b bm N : Nat) (m : Nat → Option T3) (j : Nat) (s : Int) (t3 t4 : TypeId) (x3 x4 : Value) (w : World) (hm : okM m) (hj : j < 3) (hs : (Lit.int .i64 s).wf = true) (hb : w.cell? ⟨b, 9, none⟩ = some (.map (some bm))) (hlt : b < w.heap.size) (h : MapM w bm N m)
    (g3 : w.cell? ⟨3, 0, none⟩ = some (.iface t3 x3)) (g4 : w.cell? ⟨4, 0, none⟩ = some (.iface t4 x4)) (gl : 6 ≤ w.heap.size) :
    Calls Tryz.prog 181 #[.pointer (some ⟨b, 0, none⟩), .agg #[.int .i64 (j : Int), .int .i64 s]] w fun e w' => e = .returned (seenV m j s (.iface t3 x3) (.iface t4 x4)) ∧ Below w.heap.size w w' := by
  obtain ⟨W, hW⟩ : ∃ W, W = w.alloc (.cells #[.int .i64 (j : Int), .int .i64 s] 46) := ⟨_, rfl⟩
  have BW : Hid (Below w.heap.size w W) := by show Below _ _ _; rw [hW]; exact (Below.refl _ _).alloc (Nat.le_refl _) _
  have QW : Hid (Blk W w.heap.size #[.int .i64 (j : Int), .int .i64 s] 46) := by show Blk _ _ _ _; rw [hW]; exact Blk.new _ _ _
  have MW : Hid (MapM W bm N m) := h.block (BW.out.block bm h.lt)
  have cW : W.cell? ⟨b, 9, none⟩ = some (.map (some bm)) := by rw [BW.out.cell (p := ⟨b, 9, none⟩) hlt]; exact hb
  have G3 : Hid (∀ V, Below W.heap.size W V → V.cell? ⟨3, 0, none⟩ = some (.iface t3 x3) ∧ V.cell? ⟨4, 0, none⟩ = some (.iface t4 x4)) := fun V hb => by
    have bb := BW.out.trans (hb.mono BW.out.size)
    exact ⟨by rw [bb.cell (p := ⟨3, 0, none⟩) (by show 3 < w.heap.size; omega)]; exact g3, by rw [bb.cell (p := ⟨4, 0, none⟩) (by show 4 < w.heap.size; omega)]; exact g4⟩
  have HLT : Hid (b < W.heap.size) := Nat.lt_of_lt_of_le hlt BW.out.size
  have HM : Hid (okM m) := hm
  have HW : Hid (W = _) := hW
  obtain ⟨c, v, HLK, _, _⟩ := MapM.look_all (w := W) MW.out hm j hj s hs
  have hlk := HLK W.drew rfl
  have hlk2 := HLK ((W.alloc (.cells #[.int .i64 0, .int .i64 0] 139)).drew) (heap_old _ _ _ MW.out.lt)
  have SV : Hid (seenV m j s (.iface t3 x3) (.iface t4 x4) = match m j with | some t => if t.1 = s then .iface t3 x3 else if s < t.1 then .iface t4 x4 else .nilIface | none => .nilIface) := rfl
  have LL : Hid (∀ V, Below W.heap.size W V → Calls Tryz.prog 81 #[.pointer (some ⟨b, 0, none⟩), .int .i64 (j : Int)] V fun e w' => e = .returned (.tuple #[.agg #[.int .i64 (lastReq m j).1, .int .i64 (lastReq m j).2], .bool (m j).isSome]) ∧ Below V.heap.size V w') := fun V hb => ledLast b bm N m j V HM.out hj (by rw [hb.cell (p := ⟨b, 9, none⟩) HLT.out]; exact cW) (Nat.lt_of_lt_of_le HLT.out hb.size) (MW.out.block (hb.block bm MW.out.lt))
  have LR : Hid (lastReq m j = match m j with | some t => ((j : Int), t.1) | none => (0, 0)) := rfl
  obtain ⟨q0, q1⟩ := QW.out.cells2
  obtain ⟨qa0, qa1⟩ := (QW.out.alloc (.cells #[.int .i64 0, .int .i64 0] 139)).cells2
  have cA : (W.alloc (.cells #[.int .i64 0, .int .i64 0] 139)).cell? ⟨b, 9, none⟩ = some (.map (some bm)) := by rw [(below_new W _).cell (p := ⟨b, 9, none⟩) HLT.out]; exact cW
  clear hW h hb g3 g4 hm
  generalize lastReq m j = lq at LL LR
  generalize seenV m j s (.iface t3 x3) (.iface t4 x4) = R at SV ⊢
  generalize m j = mj at hlk hlk2 SV LL LR
  cases mj with
  | none =>
    simp only at hlk hlk2 SV LR
    have hlq := LR.out
    subst hlq
    simp only [Option.isSome_none] at LL
    go_enter Tryz.func181, Tryz.ntmps181
    go_upto_region 1 with fail
    rw [← HW.out]
    obtain ⟨X, hX⟩ : ∃ X, X = (W.alloc (.cells #[.int .i64 c, .int .i64 v] 139)).drew := ⟨_, rfl⟩
    have bX : Below W.heap.size W X := by rw [hX]; exact ((Below.refl _ _).alloc (Nat.le_refl _) _).drew
    have KX : Hid (Below W.heap.size W X) := bX
    have HX : Hid (X = _) := hX
    go_cut [5, 6] from 9 to 17 (fun p o wx => p = .pointer (some ⟨W.heap.size, 0, none⟩) ∧ o = .bool false ∧ X = wx)
    case first =>
      go_region
      all_goals
        go_wp2_with fail
        go_meet
        exact ⟨rfl, rfl, HX.out⟩
    case rest =>
      obtain ⟨rfl, rfl, rfl⟩ := hcut
      clear hX bX
      go_upto_region 4 with fail
      obtain ⟨p0, p1⟩ := (QW.out.keep KX.out).cells2
      clear q0 q1 cW hlk
      go_wp2_with fail
      refine Calls.mono (LL.out X KX.out) ?_
      rintro e w1 ⟨rfl, hb1⟩
      have K1 : Hid (Below W.heap.size W w1) := KX.out.trans (hb1.mono KX.out.size)
      obtain ⟨r0, r1⟩ := (QW.out.keep K1.out).cells2
      obtain ⟨k3, k4⟩ := G3.out _ K1.out
      have BF : Hid (Below w.heap.size w w1) := BW.out.trans (K1.out.mono BW.out.size)
      clear hb1 p0 p1
      go_wp2_with fail
      go_ret
      rw [SV.out]
      exact ⟨rfl, BF.out.alloc BF.out.size _⟩
  | some t =>
    simp only at hlk hlk2 SV LR
    have hlq := LR.out
    subst hlq
    simp only [Option.isSome_some] at LL
    obtain ⟨u1, u2, u3⟩ := t
    simp only at hlk hlk2 SV LL
    by_cases e1 : u1 = s
    · have R1 : Hid (R = .iface t3 x3) := by show _ = _; rw [SV.out, if_pos e1]
      have eb : (u1 == s) = true := by simpa using e1
      rw [eb] at hlk hlk2
      clear SV LR e1 eb LL
      go_enter Tryz.func181, Tryz.ntmps181
      go_upto_region 1 with fail
      rw [← HW.out]
      obtain ⟨X, hX⟩ : ∃ X, X = (W.alloc (.cells #[.int .i64 c, .int .i64 v] 139)).drew := ⟨_, rfl⟩
      have KX : Hid (Below W.heap.size W X) := by show Below _ _ _; rw [hX]; exact ((Below.refl _ _).alloc (Nat.le_refl _) _).drew
      have HX : Hid (X = _) := hX
      go_cut [5, 6] from 9 to 17 (fun p o wx => p = .pointer (some ⟨W.heap.size, 0, none⟩) ∧ o = .bool true ∧ X = wx)
      case first =>
        go_region
        all_goals
          go_wp2_with fail
          go_meet
          exact ⟨rfl, rfl, HX.out⟩
      case rest =>
        obtain ⟨rfl, rfl, rfl⟩ := hcut
        have BF : Hid (Below w.heap.size w X) := BW.out.trans (KX.out.mono BW.out.size)
        obtain ⟨k3, k4⟩ := G3.out _ KX.out
        clear hX q0 q1 cW hlk
        go_upto_region 3 with fail
        go_wp2_with fail
        go_ret
        rw [R1.out]
        exact ⟨rfl, BF.out⟩
    · have R1 : Hid (R = if s < u1 then .iface t4 x4 else .nilIface) := by show _ = _; rw [SV.out, if_neg e1]
      have eb : (u1 == s) = false := by simpa using e1
      rw [eb] at hlk hlk2
      clear SV LR e1 eb
      go_enter Tryz.func181, Tryz.ntmps181
      go_upto_region 1 with fail
      rw [← HW.out]
      obtain ⟨X, hX⟩ : ∃ X, X = (W.alloc (.cells #[.int .i64 c, .int .i64 v] 139)).drew := ⟨_, rfl⟩
      have bX : Below W.heap.size W X := by rw [hX]; exact ((Below.refl _ _).alloc (Nat.le_refl _) _).drew
      have KX : Hid (Below W.heap.size W X) := bX
      have HX : Hid (X = _) := hX
      go_cut [5, 6] from 9 to 17 (fun p o wx => p = .pointer (some ⟨W.heap.size, 0, none⟩) ∧ o = .bool false ∧ X = wx)
      case first =>
        go_region
        all_goals
          go_wp2_with fail
          go_meet
          exact ⟨rfl, rfl, HX.out⟩
      case rest =>
        obtain ⟨rfl, rfl, rfl⟩ := hcut
        clear hX bX
        go_upto_region 4 with fail
        obtain ⟨p0, p1⟩ := (QW.out.keep KX.out).cells2
        clear q0 q1 cW hlk
        go_wp2_with fail
        refine Calls.mono (LL.out X KX.out) ?_
        rintro e w1 ⟨rfl, hb1⟩
        have K1 : Hid (Below W.heap.size W w1) := KX.out.trans (hb1.mono KX.out.size)
        obtain ⟨r0, r1⟩ := (QW.out.keep K1.out).cells2
        obtain ⟨k3, k4⟩ := G3.out _ K1.out
        have BF : Hid (Below w.heap.size w w1) := BW.out.trans (K1.out.mono BW.out.size)
        obtain ⟨ra0, ra1⟩ := ((QW.out.keep K1.out).alloc (.cells #[.int .i64 (j : Int), .int .i64 u1] 46)).cells2
        obtain ⟨rn0, rn1⟩ := (Blk.new w1 #[.int .i64 (j : Int), .int .i64 u1] 46).cells2
        clear hb1 p0 p1
        by_cases e2 : s < u1
        · have R2 : Hid (R = .iface t4 x4) := by show _ = _; rw [R1.out, if_pos e2]
          have d2 : decide (s < u1) = true := by simpa using e2
          have GA : Hid (∀ o : Obj, (w1.alloc o).cell? ⟨4, 0, none⟩ = some (.iface t4 x4)) := fun o => by
            rw [(below_new w1 o).cell (p := ⟨4, 0, none⟩) (by have := BF.out.size; show 4 < w1.heap.size; omega)]; exact k4
          have ka := GA.out (.cells #[.int .i64 (j : Int), .int .i64 u1] 46)
          go_wp2_with fail
          go_ret
          rw [R2.out]
          exact ⟨rfl, BF.out.alloc BF.out.size _⟩
        · have R2 : Hid (R = .nilIface) := by show _ = _; rw [R1.out, if_neg e2]
          have d2 : decide (s < u1) = false := by simpa using e2
          go_wp2_with fail
          go_ret
          rw [R2.out]
          exact ⟨rfl, BF.out.alloc BF.out.size _⟩
end Go.Proofs.YtbecdihfopjlhaaGreatDoor.Own
