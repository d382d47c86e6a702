/-
  Own text: what spec.l3Do does.
-/
import Derived.Test.YtgcencilgpilaaaExecDoS
import Derived.Test.YtgcencilgpilaaaDoMath
import Derived.Test.YtgcencilgpilaaaBar
import Derived.StillTailTactics
namespace Go.Proofs.Ytgcencilgpilaaa.Own
open Go.RowKit
set_option linter.unusedVariables false
set_option linter.unusedSimpArgs false

theorem region_still_tail {P : Program} {id : Nat} {Q : Exit → Act → World → Prop} {a : Act} {w : World} {l : List Oper} (n : Nat) (hm : P.follows .mixedOrders = true) (hB : Region.lexTailB .any l.toArray n = true)
    (h : wpStill P l.toArray w.drew (fun a' => wpList P l.toArray Q (l.drop n) a' w.drew) (l.take n) a) : (Code.region id l.toArray true).wp P Q a w := wp_region_still_tail n hm hB h

set_option maxRecDepth 100000 in
set_option maxHeartbeats 2000000 in
theorem l3Do (g cap : Nat) (bs : List P2) (a1 a2 : Option Addr) (n1 c1 c2 : Nat) (ys : List P2) (v k : Int) (w : World) (hbs : boxOk bs = true) (hat : BoxAt w g 0 bs) (hfr : ∀ o, w.frozen? ⟨g, o, none⟩ = false) (h2 : Sl w a2 ys) (hg : ys = [] ∨ ∀ x, a2 = some x → x.block ≠ g) (hn2 : ys.length ≤ 2 ^ 40) (hy : okAll numOk ys = true) :
    Calls Try.prog 66 #[.slice (some ⟨g, 0, none⟩) 4 cap, .agg #[.slice a1 n1 c1, .slice a2 ys.length c2, .int .i64 v, .int .i64 k]] w fun e w' => e = .returned (.slice (some ⟨g, 0, none⟩) 4 cap) ∧ BoxAt w' g 0 (doPuts bs ys) ∧ (∀ o, w'.frozen? ⟨g, o, none⟩ = false) ∧ Bar g w w' := by
  have HA : Hid (BoxAt w g 0 bs) := hat
  have HF : Hid (∀ o, w.frozen? ⟨g, o, none⟩ = false) := hfr
  have H2 : Hid (Sl w a2 ys) := h2
  have HG : Hid (ys = [] ∨ ∀ x, a2 = some x → x.block ≠ g) := hg
  have HY : Hid (okAll numOk ys = true) := hy
  have HBO : Hid (boxOk bs = true) := hbs
  have HL : Hid (bs.length = 4) := boxOk_len hbs
  clear hat hfr h2 hg hy hbs
  obtain ⟨W, hW⟩ : ∃ W, W = w.alloc (.cells #[.slice a1 n1 c1, .slice a2 ys.length c2, .int .i64 v, .int .i64 k] 27) := ⟨_, rfl⟩
  have BW : Hid (Below w.heap.size w W) := by show Below _ _ _; rw [hW]; exact below_new _ _
  have P0 : Hid (C4 W w.heap.size (.slice a1 n1 c1) (.slice a2 ys.length c2) (.int .i64 v) (.int .i64 k)) := by show C4 _ _ _ _ _ _; rw [hW]; exact C4.new _ _ _ _ _ _
  have HW : Hid (W = _) := hW
  clear hW
  have hgw : g < w.heap.size := HA.out.1
  obtain ⟨_, q0, q1, q2, q3⟩ := P0.out
  go_enter Try.func66, Try.ntmps66
  go_upto_region 1 with fail
  rw [← HW.out]
  go_wp2_with fail
  clear q0 q1 q2 q3
  go_loopw [5, 6] (fun i b wr => ∃ j : Nat, j ≤ ys.length ∧ i = .int .i64 j ∧ BoxAt wr g 0 (doPuts bs (ys.take j)) ∧ (∀ o, wr.frozen? ⟨g, o, none⟩ = false) ∧ Bar g W wr) (fun i _ _ => ys.length - (intOf i).toNat)
  case atStart => exact ⟨0, Nat.zero_le _, rfl, by simpa [doPuts] using HA.out.below BW.out, fun o => by rw [BW.out.frozen (p := ⟨g, o, none⟩) hgw]; exact HF.out o, Bar.refl _ _⟩
  case round =>
    obtain ⟨j, hj, rfl, hA, hF, hB⟩ := hrel
    have HAt : Hid (BoxAt wr g 0 (doPuts bs (ys.take j))) := hA
    have HFr : Hid (∀ o, wr.frozen? ⟨g, o, none⟩ = false) := hF
    have HB : Hid (Bar g W wr) := hB
    have hc : ∀ o, wr.cell? ⟨w.heap.size, o, none⟩ = W.cell? ⟨w.heap.size, o, none⟩ := fun o => World.cell?_of_block (w := W) (a := ⟨w.heap.size, o, none⟩) (hB.block w.heap.size P0.out.1 (by omega))
    have q1 : wr.cell? ⟨w.heap.size, 1, none⟩ = some (.slice a2 ys.length c2) := by rw [hc]; exact P0.out.2.2.1
    clear hA hF hc
    by_cases hlt : j < ys.length
    · rcases H2.out with h | ⟨b1, o1, rfl, h1⟩
      · subst h; simp at hlt
      have hb1 : b1 ≠ g := by
        rcases HG.out with h | h
        · subst h; simp at hlt
        · exact h _ rfl
      have H1' : Hid (BoxAt wr b1 o1 ys) := by
        have h := h1.below BW.out
        have hc : ∀ o, wr.cell? ⟨b1, o, none⟩ = W.cell? ⟨b1, o, none⟩ := fun o => World.cell?_of_block (w := W) (a := ⟨b1, o, none⟩) (hB.block b1 h.1 hb1)
        exact ⟨Nat.lt_of_lt_of_le h.1 hB.size, fun i hi => by rw [hc, hc]; exact h.2 i hi⟩
      clear h1 hB
      obtain ⟨p, hp⟩ : ∃ p, p = ys.getD j (0, 0) := ⟨_, rfl⟩
      obtain ⟨ca, cb⟩ := H1'.out.2 j hlt
      rw [← hp] at ca cb
      have HP : Hid (p = ys.getD j (0, 0)) := hp
      clear hp
      obtain ⟨p1, p2⟩ := p
      obtain ⟨m, hm, hm1⟩ := okAll_box HY.out j hlt
      rw [← HP.out] at hm1
      have hm2 : p1 = (m : Int) := hm1
      clear hm1
      subst hm2
      have OKj := doPuts_ok HBO.out HY.out j hj
      have hver := boxOk_ver OKj m hm
      have hlen : (doPuts bs (ys.take j)).length = 4 := by rw [doPuts_length]; exact HL.out
      have HS : Hid (doPuts bs (ys.take (j + 1)) = (doPuts bs (ys.take j)).set m (min 1000000 (((doPuts bs (ys.take j)).getD m (0, 0)).1 + 1), p2)) := by
        show _ = _
        rw [doPuts_succ _ _ _ hlt, ← HP.out]
        rfl
      generalize doPuts bs (ys.take j) = cur at HAt HS hver hlen
      have HLn : Hid (cur.length = 4) := hlen
      have cx := (HAt.out.2 m (by rw [hlen]; exact hm)).1
      have cy := (HAt.out.2 m (by rw [hlen]; exact hm)).2
      have HN : Hid (BoxAt ((wr.setCell ⟨g, 0 + m * 2, none⟩ (.int .i64 (min 1000000 ((cur.getD m (0, 0)).1 + 1)))).setCell ⟨g, 0 + m * 2 + 1, none⟩ (.int .i64 p2)) g 0 (doPuts bs (ys.take (j + 1)))) := by
        show BoxAt _ _ _ _
        rw [HS.out]; exact HAt.out.setBoth m (by rw [hlen]; exact hm) _ _
      obtain ⟨x, hx⟩ : ∃ x, x = (cur.getD m (0, 0)).1 := ⟨_, rfl⟩
      rw [← hx] at cx hver HN
      have f0 := HFr.out (m * 2)
      have f1 := HFr.out (m * 2 + 1)
      simp only [Nat.zero_add] at cx cy HN
      obtain ⟨y, hy⟩ : ∃ y, y = (cur.getD m (0, 0)).2 := ⟨_, rfl⟩
      rw [← hy] at cy
      clear hx hy hlen
      obtain ⟨hv0, hv1⟩ := hver
      have hne : ¬ g = w.heap.size := by omega
      have hne2 : ¬ g = b1 := fun e => hb1 e.symm
      obtain ⟨z, hz⟩ : ∃ z, z = min 1000000 (x + 1) := ⟨_, rfl⟩
      have HZ : Hid (∀ W, Calls Try.prog 117 #[.int .i64 1000000, .int .i64 (x + 1)] W fun e w' => e = .returned (.int .i64 z) ∧ w' = W) := fun W => by rw [hz]; exact l1MinC _ _ _
      rw [← hz] at HN
      clear hz
      have HBz : Hid (Bar g W ((wr.setCell ⟨g, m * 2, none⟩ (.int .i64 z)).setCell ⟨g, m * 2 + 1, none⟩ (.int .i64 p2))) := HB.out.trans (Bar.ofOnly (((Only.refl g wr).setCell _).setCell _))
      have HFz : Hid (∀ o, ((wr.setCell ⟨g, m * 2, none⟩ (.int .i64 z)).setCell ⟨g, m * 2 + 1, none⟩ (.int .i64 p2)).frozen? ⟨g, o, none⟩ = false) := fun o => by simpa using HFr.out o
      have hw1 : IntKind.i64.wrap (x + 1) = x + 1 := by
        rw [IntKind.wrap_i64]; omega
      have hmi : (m : Int) < 4 := by omega
      have hji : (j : Int) < (ys.length : Int) := by omega
      go_upto_region 5 with fail
      refine region_still_tail 16 (by kernel_rfl) (by kernel_rfl) ?_
      simp only [List.take_succ_cons, List.take_zero, List.drop_succ_cons, List.drop_zero]
      iterate 8 still_step
      still_call (HZ.out _)
      iterate 7 still_step
      refine wpStill_nil ?_
      go_wp2
      go_roundw
      case rel => exact ⟨j + 1, by omega, by go_num, HN.out, HFz.out, HBz.out.os, HBz.out.tape, HBz.out.output, HBz.out.size, HBz.out.block⟩
      case measure => simp [intOf]; omega
    · have hjl : j = ys.length := by omega
      subst hjl
      rw [List.take_length] at HAt
      clear hB
      go_wp2
      go_ret
      refine ⟨rfl, HAt.out, HFr.out, ?_⟩
      exact (Bar.ofBelow BW.out).trans HB.out
end Go.Proofs.Ytgcencilgpilaaa.Own
