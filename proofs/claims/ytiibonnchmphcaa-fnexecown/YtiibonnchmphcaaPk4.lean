/-
  Own texts, bundled: L3Put, OwnB, Turned, RunHeld, RunMap, RunSet, ExecOkS2, ExecOkS3, ExecFreshS, ExecDoS, ExecDoS2.
-/
import Derived.Test.YtiibonnchmphcaaPk2
import Derived.Test.YtiibonnchmphcaaPk3
import Derived.Deep.AppendLies
import Derived.Test.YtiibonnchmphcaaPk1
import Derived.Maps.OwnSet
import Derived.Laws.Pointers
import Derived.Deep.Cut
import Derived.Deep.CutRange
import Derived.StillTailTactics
namespace Go.Proofs.Ytiibonnchmphcaa.Own
open Go.RowKit
set_option linter.unusedVariables false
set_option linter.unusedSimpArgs false

theorem OwnP.frozen {t : TypeId} {w : World} {B g n cap : Nat} {xs : List P2} (h : w.ownsRow B t 2 (.slice (some ⟨g, 0, none⟩) n cap) n (flat xs)) (o : Nat) : w.frozen? ⟨g, o, none⟩ = false := by
  obtain ⟨h1, h2⟩ := h
  rcases h2 with ⟨hv, h0⟩ | ⟨g', cap', cur, hv, hg, hh, r⟩
  · cases hv
  · injection hv with e1 e2 e3
    injection e1 with e1
    injection e1 with e1
    subst e1
    exact frozen_heap hh o

/-- What putting leaves. -/
def PutPost (xs ys : List P2) (j : Nat) (n : Int) (B : Nat) (rv pv : Value) (v k : Int) (w : World) (e : Ending) (w' : World) : Prop :=
  ∃ pv', e = .returned (.agg #[rv, pv', .int .i64 v, .int .i64 k]) ∧ OwnP 38 w' B rv xs ∧ OwnP 50 w' B pv' (putP ys j n) ∧
    (rv.ownBlock = none ∨ rv.ownBlock ≠ pv'.ownBlock) ∧ w.grownBy w' pv.ownBlock ∧ (∀ g, pv'.ownBlock = some g → pv.ownBlock = some g ∨ w.heap.size ≤ g)

theorem infoPut : (Try.prog.info? 50).map (fun i => (i.zero, i.size, i.bytes)) = some (some (.agg #[.int .i64 0, .int .i64 0]), 2, 16) := by kernel_rfl

set_option maxRecDepth 100000 in
set_option maxHeartbeats 4000000 in
theorem l3Put (j : Nat) (n : Int) (rv pv : Value) (xs ys : List P2) (v k : Int) (B : Nat) (w : World)
    (hr : OwnP 38 w B rv xs) (hp : OwnP 50 w B pv ys) (hd : rv.ownBlock = none ∨ rv.ownBlock ≠ pv.ownBlock) (hB : B ≤ w.heap.size) (ly : ys.length ≤ 1000) :
    Calls Try.prog 115 #[.agg #[rv, pv, .int .i64 v, .int .i64 k], .int .i64 j, .int .i64 n] w fun e w' => PutPost xs ys j n B rv pv v k w e w' := by
  obtain ⟨ar, cr, hrv, slr, hcr, hmr, hbr⟩ := hr.open
  obtain ⟨ap, cp, hpv, slp, hcp, hmp, hbp⟩ := hp.open
  have HR : Hid (OwnP 38 w B rv xs) := hr
  have HP : Hid (OwnP 50 w B pv ys) := hp
  have HD : Hid (rv.ownBlock = none ∨ rv.ownBlock ≠ pv.ownBlock) := hd
  have HRV : Hid (rv = .slice ar xs.length cr) := hrv
  have HPV : Hid (pv = .slice ap ys.length cp) := hpv
  have SP : Hid (Sl w ap ys) := slp
  have HBP : Hid (∀ x, ap = some x → pv.ownBlock = some x.block ∧ x.off = 0 ∧ x.spot = none) := hbp
  clear hr hp hd slr slp hbr hbp hcr hcp hmr hmp
  obtain ⟨W, hW⟩ : ∃ W, W = (w.alloc (.cells #[.slice ar xs.length cr, .slice ap ys.length cp, .int .i64 v, .int .i64 k] 30)).alloc (.cells #[.slice none 0 0, .slice none 0 0, .int .i64 0, .int .i64 0] 30) := ⟨_, rfl⟩
  have BW : Hid (Below w.heap.size w W) := by show Below _ _ _; rw [hW]; exact ((Below.refl _ _).alloc (Nat.le_refl _) _).alloc (by simp) _
  have HSW : Hid (W.heap.size = w.heap.size + 2) := by show _ = _; rw [hW]; simp
  have hNW : w.heap.size + 1 < W.heap.size := by have := HSW.out; omega
  have hBW : B ≤ W.heap.size := by omega
  have g0 : Hid (W.heap[w.heap.size]? = some (.cells #[.slice ar xs.length cr, .slice ap ys.length cp, .int .i64 v, .int .i64 k] 30 (0, 0))) := by show _ = _; rw [hW]; exact heap_new1 _ _ _
  have g1 : Hid (W.heap[w.heap.size + 1]? = some (.cells #[.slice none 0 0, .slice none 0 0, .int .i64 0, .int .i64 0] 30 (0, 0))) := by show _ = _; rw [hW]; exact heap_new2 _ _ _
  have HW : Hid (W = _) := hW
  clear hW
  have q0 : W.cell? ⟨w.heap.size, 0, none⟩ = some (.slice ar xs.length cr) := by rw [cell_heap g0.out]; rfl
  have q1 : W.cell? ⟨w.heap.size, 1, none⟩ = some (.slice ap ys.length cp) := by rw [cell_heap g0.out]; rfl
  have q2 : W.cell? ⟨w.heap.size, 2, none⟩ = some (.int .i64 v) := by rw [cell_heap g0.out]; rfl
  have q3 : W.cell? ⟨w.heap.size, 3, none⟩ = some (.int .i64 k) := by rw [cell_heap g0.out]; rfl
  have z0 : W.cell? ⟨w.heap.size + 1, 0, none⟩ = some (.slice none 0 0) := by rw [cell_heap g1.out]; rfl
  have z1 : W.cell? ⟨w.heap.size + 1, 1, none⟩ = some (.slice none 0 0) := by rw [cell_heap g1.out]; rfl
  have z2 : W.cell? ⟨w.heap.size + 1, 2, none⟩ = some (.int .i64 0) := by rw [cell_heap g1.out]; rfl
  have z3 : W.cell? ⟨w.heap.size + 1, 3, none⟩ = some (.int .i64 0) := by rw [cell_heap g1.out]; rfl
  have fz : ∀ o, W.frozen? ⟨w.heap.size + 1, o, none⟩ = false := fun o => frozen_heap g1.out o
  have lR : Hid (∀ g, rv.ownBlock = some g → g < w.heap.size) := fun g hg => (World.ownsRow.lt HR.out g hg).2
  have lP : Hid (∀ g, pv.ownBlock = some g → g < w.heap.size) := fun g hg => (World.ownsRow.lt HP.out g hg).2
  rw [HRV.out, HPV.out]
  go_enter Try.func115, Try.ntmps115
  go_wp2_with fail
  rw [← HW.out]
  refine (l3At ap cp ys.length ys j W (SP.out.below BW.out) rfl (by omega)).mono ?_
  rintro e w1 ⟨rfl, hw⟩
  rw [hw]
  clear hw
  cases hy : hasBox ys j with
  | true =>
    obtain ⟨pe, pl⟩ := place_idx ys j hy
    rw [pe]
    have EP : Hid (putP ys j n = ys.set (idxBox ys j) ((ys.getD (idxBox ys j) (0, 0)).1, n)) := by show _ = _; simp [putP, hy]
    generalize idxBox ys j = m at pl EP
    clear pe hy
    rcases SP.out with h0 | ⟨b, off, rfl, hat0⟩
    · rw [h0] at pl; simp at pl
    obtain ⟨ob, h0, _⟩ := HBP.out _ rfl
    dsimp only at ob h0
    subst h0
    have hbw : b < w.heap.size := hat0.1
    have HPW : Hid (OwnP 50 W B (.slice (some ⟨b, 0, none⟩) ys.length cp) ys) := by
      show OwnP _ _ _ _ _
      rw [← HPV.out]; exact HP.out.below BW.out
    have cy := ((hat0.below BW.out).2 m pl).2
    rw [Nat.zero_add] at cy
    have fb : ∀ o, W.frozen? ⟨b, o, none⟩ = false := fun o => OwnP.frozen HPW.out o
    clear hat0
    have dm : decide ((0 : Int) ≤ (m : Int)) = true := by simp
    have hml : (m : Int) < ((ys.length : Nat) : Int) := by omega
    have bn : ¬ b = w.heap.size := by omega
    have bn' : ¬ w.heap.size = b := by omega
    have bm : ¬ b = w.heap.size + 1 := by omega
    have bm' : ¬ w.heap.size + 1 = b := by omega
    have FIN : Hid (∀ W', (W.setCell ⟨b, m * 2 + 1, none⟩ (.int .i64 n)).grownBy W' (some (w.heap.size + 1)) → OwnP 38 W' B rv xs ∧ OwnP 50 W' B (.slice (some ⟨b, 0, none⟩) ys.length cp) (putP ys j n) ∧ (rv.ownBlock = none ∨ rv.ownBlock ≠ (Value.slice (some ⟨b, 0, none⟩) ys.length cp).ownBlock) ∧ w.grownBy W' pv.ownBlock ∧ (∀ g, (Value.slice (some ⟨b, 0, none⟩) ys.length cp).ownBlock = some g → pv.ownBlock = some g ∨ w.heap.size ≤ g)) := by
      intro W' hk
      have s1 : W.grownBy (W.setCell ⟨b, m * 2 + 1, none⟩ (.int .i64 n)) (some b) := grSet (grR _ _) _
      refine ⟨?_, ?_, ?_, ?_, ?_⟩
      · refine ((HR.out.below BW.out).keep s1 ?_).keep hk ?_
        · rw [← ob]; exact HD.out
        · cases h : rv.ownBlock with
          | none => exact .inl rfl
          | some q => refine .inr fun e => ?_; injection e with e; have := lR.out _ h; omega
      · have o := (HPW.out.set m pl n)
        rw [EP.out]
        have o2 : OwnP 50 W' B (.slice (some ⟨b, 0, none⟩) ys.length cp) (ys.set m ((ys.getD m (0, 0)).1, n)) := o.keep hk (.inr fun e => by injection e with e; exact bm e)
        exact o2
      · show _ ∨ rv.ownBlock ≠ some b
        rw [← ob]; exact HD.out
      · rw [ob]; exact grNew ((grBelow BW.out).trans s1) hk (by omega)
      · intro g e; exact .inl (by rw [ob]; exact e)
    have FIN' : Hid (∀ W', (W.setCell ⟨b, m * 2 + 1, none⟩ (.int .i64 n)).grownBy W' (some (w.heap.size + 1)) → OwnP 38 W' B rv xs ∧ OwnP 50 W' B pv (putP ys j n) ∧ (rv.ownBlock = none ∨ rv.ownBlock ≠ pv.ownBlock) ∧ w.grownBy W' pv.ownBlock ∧ (∀ g, pv.ownBlock = some g → pv.ownBlock = some g ∨ w.heap.size ≤ g)) := fun W' hk => by
      have F := FIN.out W' hk
      rw [← HPV.out] at F
      exact F
    go_wp2
    refine bodyPost_ret (v := .agg #[.slice ar xs.length cr, .slice (some ⟨b, 0, none⟩) ys.length cp, .int .i64 v, .int .i64 k]) (by simp [results, Try.results115, go_sem, z0, z1, z2, z3, bm, bm']) rfl ⟨_, rfl, ?_⟩
    rw [← HRV.out, ← HPV.out]
    refine FIN'.out _ ?_
    repeat (first | exact grR _ _ | apply grSet | apply grDrew | apply grDrewN)
  | false =>
    rw [place_no ys j hy]
    have EP : Hid (putP ys j n = ys ++ [((j : Int), n)]) := by show _ = _; simp [putP, hy]
    clear hy
    obtain ⟨i0, hi0, hz0, hz1, hz2⟩ := info_parts infoPut
    have I0 : Hid (Try.prog.info? 50 = some i0 ∧ i0.zero = some (.agg #[.int .i64 0, .int .i64 0]) ∧ i0.size = 2 ∧ i0.bytes = 16) := ⟨hi0, hz0, hz1, hz2⟩
    clear hi0 hz0 hz1 hz2
    have HPW : Hid (W.ownsRow B 50 2 (.slice ap ys.length cp) ys.length (flat ys)) := by
      show W.ownsRow _ _ _ _ _ _
      rw [← HPV.out]; exact HP.out.below BW.out
    have OB : Hid (pv.ownBlock = (Value.slice ap ys.length cp).ownBlock) := by show _ = _; rw [HPV.out]
    have hN : Hid (ys.length + 1 ≤ maxLen) := by show _ ≤ _; unfold maxLen; omega
    have hBy : Hid ((ys.length + 1) * 16 ≤ 140737488355328) := by show _ ≤ _; omega
    have hBs : Hid (B ≤ (W.alloc (.cells #[.int .i64 j, .int .i64 n] 50)).heap.size) := by show _ ≤ _; rw [size_new]; omega
    go_wp2_with (at_builtin; refine wpList_append_lies _ rfl (.tmp 22) (.tmp 26) 28 rfl B 50 i0 (.agg #[.int .i64 0, .int .i64 0]) 2 16 Try.underlying28 I0.out.1 I0.out.2.1 I0.out.2.2.1 I0.out.2.2.2 rfl (by decide) (.slice ap ys.length cp) ys.length (flat ys) rfl (HPW.out.alloc _) ⟨W.heap.size, 0, none⟩ 1 1 [.int .i64 j, .int .i64 n] rfl rfl (World.news_of_block (cs := #[.int .i64 j, .int .i64 n]) (t := 50) (fr := (0, 0)) (heap_alloc_new W _)) (by simp [Value.oneCell']) (by decide) hN.out hBy.out hBs.out (W.heap.size + 1) (size_new _ _) ?_)
    intro gg cap w1 hown1 hgrow hat hlt
    have GW : W.grownBy w1 (Value.slice ap ys.length cp).ownBlock := World.grownBy.trans (grAlloc (grR W _) _) hgrow
    have nN : (Value.slice ap ys.length cp).ownBlock ≠ some w.heap.size ∧ (Value.slice ap ys.length cp).ownBlock ≠ some (w.heap.size + 1) := by
      rw [← OB.out]
      exact ⟨fun e => by have := lP.out _ e; omega, fun e => by have := lP.out _ e; omega⟩
    have G0 : w1.heap[w.heap.size]? = some (.cells #[.slice ar xs.length cr, .slice ap ys.length cp, .int .i64 v, .int .i64 k] 30 (0, 0)) := by rw [GW.block _ (by omega) (Ne.symm nN.1)]; exact g0.out
    have G1 : w1.heap[w.heap.size + 1]? = some (.cells #[.slice none 0 0, .slice none 0 0, .int .i64 0, .int .i64 0] 30 (0, 0)) := by rw [GW.block _ (by omega) (Ne.symm nN.2)]; exact g1.out
    have c0 : w1.cell? ⟨w.heap.size, 0, none⟩ = some (.slice ar xs.length cr) := (cell_heap G0 0).trans rfl
    have c1 : w1.cell? ⟨w.heap.size, 1, none⟩ = some (.slice ap ys.length cp) := (cell_heap G0 1).trans rfl
    have c2 : w1.cell? ⟨w.heap.size, 2, none⟩ = some (.int .i64 v) := (cell_heap G0 2).trans rfl
    have c3 : w1.cell? ⟨w.heap.size, 3, none⟩ = some (.int .i64 k) := (cell_heap G0 3).trans rfl
    have y0 : w1.cell? ⟨w.heap.size + 1, 0, none⟩ = some (.slice none 0 0) := (cell_heap G1 0).trans rfl
    have y1 : w1.cell? ⟨w.heap.size + 1, 1, none⟩ = some (.slice none 0 0) := (cell_heap G1 1).trans rfl
    have y2 : w1.cell? ⟨w.heap.size + 1, 2, none⟩ = some (.int .i64 0) := (cell_heap G1 2).trans rfl
    have y3 : w1.cell? ⟨w.heap.size + 1, 3, none⟩ = some (.int .i64 0) := (cell_heap G1 3).trans rfl
    have fx : ∀ o, w1.frozen? ⟨w.heap.size, o, none⟩ = false := fun o => frozen_heap G0 o
    have fy : ∀ o, w1.frozen? ⟨w.heap.size + 1, o, none⟩ = false := fun o => frozen_heap G1 o
    have FIN : Hid (∀ W', (w1.setCell ⟨w.heap.size, 1, none⟩ (.slice (some ⟨gg, 0, none⟩) (ys.length + 1) cap)).grownBy W' (some (w.heap.size + 1)) → OwnP 38 W' B rv xs ∧ OwnP 50 W' B (.slice (some ⟨gg, 0, none⟩) (ys.length + 1) cap) (putP ys j n) ∧ (rv.ownBlock = none ∨ rv.ownBlock ≠ (Value.slice (some ⟨gg, 0, none⟩) (ys.length + 1) cap).ownBlock) ∧ w.grownBy W' pv.ownBlock ∧ (∀ g, (Value.slice (some ⟨gg, 0, none⟩) (ys.length + 1) cap).ownBlock = some g → pv.ownBlock = some g ∨ w.heap.size ≤ g)) := by
      intro W' hk
      have s1 : w1.grownBy (w1.setCell ⟨w.heap.size, 1, none⟩ (.slice (some ⟨gg, 0, none⟩) (ys.length + 1) cap)) (some w.heap.size) := grSet (grR _ _) _
      have hgg : gg ≠ w.heap.size ∧ gg ≠ w.heap.size + 1 ∧ (∀ q, rv.ownBlock = some q → q ≠ gg) := by
        rcases hat with h | h
        · rw [← OB.out] at h
          have := lP.out _ h
          refine ⟨by omega, by omega, fun q hq e => ?_⟩
          rcases HD.out with h' | h'
          · rw [hq] at h'; cases h'
          · exact h' (by rw [h, hq, e])
        · refine ⟨by omega, by omega, fun q hq e => ?_⟩
          have := lR.out _ hq
          omega
      refine ⟨?_, ?_, ?_, ?_, ?_⟩
      · refine (((HR.out.below BW.out).keep GW ?_).keep s1 ?_).keep hk ?_
        · rw [← OB.out]; exact HD.out
        · cases h : rv.ownBlock with
          | none => exact .inl rfl
          | some q => refine .inr fun e => ?_; injection e with e; have := lR.out _ h; omega
        · cases h : rv.ownBlock with
          | none => exact .inl rfl
          | some q => refine .inr fun e => ?_; injection e with e; have := lR.out _ h; omega
      · have o : OwnP 50 w1 B (.slice (some ⟨gg, 0, none⟩) (ys.length + 1) cap) (ys ++ [((j : Int), n)]) := by
          unfold OwnP
          rw [List.length_append, flat_snocP]
          exact hown1
        rw [EP.out]
        refine (o.keep s1 (.inr ?_)).keep hk (.inr ?_)
        · intro e; injection e with e; exact hgg.1 e
        · intro e; injection e with e; exact hgg.2.1 e
      · refine .inr fun e => ?_
        exact hgg.2.2 gg e rfl
      · rw [OB.out]
        exact grNew (grNew ((grBelow BW.out).trans GW) s1 (Nat.le_refl _)) hk (by omega)
      · intro g e
        have e' : gg = g := Option.some.inj e
        subst e'
        rcases hat with h | h
        · exact .inl (by rw [OB.out]; exact h)
        · exact .inr (by omega)
    clear hown1 hgrow hat hlt GW nN G0 G1
    go_wp2
    refine bodyPost_ret (v := .agg #[.slice ar xs.length cr, .slice (some ⟨gg, 0, none⟩) (ys.length + 1) cap, .int .i64 v, .int .i64 k]) (by simp [results, Try.results115, go_sem, y0, y1, y2, y3]) rfl ⟨_, rfl, ?_⟩
    rw [← HRV.out, ← HPV.out]
    refine FIN.out _ ?_
    repeat (first | exact grR _ _ | apply grSet | apply grDrew | apply grDrewN)
end Go.Proofs.Ytiibonnchmphcaa.Own

namespace Go.Proofs.Ytiibonnchmphcaa.Own
open Go.RowKit

/-- A list that a call made: from block B on, or empty. -/
def OwnB (w : World) (B : Nat) (a : Option Addr) (xs : List (Int × Int)) : Prop := xs = [] ∨ ∃ g, a = some ⟨g, 0, none⟩ ∧ B ≤ g ∧ BoxAt w g 0 xs ∧ (∀ o, w.frozen? ⟨g, o, none⟩ = false)
theorem OwnB.sl {w : World} {B : Nat} {a : Option Addr} {xs : List (Int × Int)} (h : OwnB w B a xs) : Sl w a xs := by
  rcases h with h | ⟨g, rfl, _, h, _⟩
  · exact .inl h
  · exact .inr ⟨g, 0, rfl, h⟩
theorem OwnB.below {w w' : World} {B : Nat} {a : Option Addr} {xs : List (Int × Int)} (h : OwnB w B a xs) (hb : Below w.heap.size w w') : OwnB w' B a xs := by
  rcases h with h | ⟨g, rfl, hB, h, hf⟩
  · exact .inl h
  · exact .inr ⟨g, rfl, hB, h.below hb, fun o => by rw [hb.frozen (p := ⟨g, o, none⟩) h.1]; exact hf o⟩
theorem OwnB.weaken {w : World} {B B' : Nat} {a : Option Addr} {xs : List (Int × Int)} (h : OwnB w B a xs) (hb : B' ≤ B) : OwnB w B' a xs := by
  rcases h with h | ⟨g, rfl, hB, h, hf⟩
  · exact .inl h
  · exact .inr ⟨g, rfl, Nat.le_trans hb hB, h, hf⟩
/-- Nothing but the list's own block has turned. -/
def OnlyB (a : Option Addr) (xs : List (Int × Int)) (w w' : World) : Prop := (xs = [] ∧ w' = w) ∨ ∃ g, xs ≠ [] ∧ a = some ⟨g, 0, none⟩ ∧ Only g w w'
theorem OnlyB.below {a : Option Addr} {xs : List (Int × Int)} {w w' : World} {B : Nat} (h : OnlyB a xs w w') (hB : ∀ g, xs ≠ [] → a = some ⟨g, 0, none⟩ → B ≤ g) : Below B w w' := by
  rcases h with ⟨_, rfl⟩ | ⟨g, hne, e, h⟩
  · exact Below.refl _ _
  · exact h.below (hB g hne e)
theorem OwnB.from {w : World} {B : Nat} {a : Option Addr} {xs : List (Int × Int)} (h : OwnB w B a xs) : ∀ g, xs ≠ [] → a = some ⟨g, 0, none⟩ → B ≤ g := by
  intro g hne e
  rcases h with h | ⟨g', e', hB, _⟩
  · exact absurd h hne
  · rw [e] at e'; injection e' with e'; injection e' with e1; omega
/-- Two lists that lie in different blocks. -/
def Apart (a b : Option Addr) (xs ys : List (Int × Int)) : Prop := xs = [] ∨ ys = [] ∨ ∀ g g', a = some ⟨g, 0, none⟩ → b = some ⟨g', 0, none⟩ → g ≠ g'
theorem OwnB.onlyB {w w' : World} {B : Nat} {a b : Option Addr} {xs ys : List (Int × Int)} (h : OwnB w B a xs) (ho : OnlyB b ys w w') (hap : Apart a b xs ys) : OwnB w' B a xs := by
  rcases ho with ⟨_, rfl⟩ | ⟨g, hne, rfl, ho⟩
  · exact h
  · rcases h with h | ⟨g', rfl, hB, h, hf⟩
    · exact .inl h
    · rcases hap with h0 | h0 | hap
      · exact .inl h0
      · exact absurd h0 hne
      · have hgg := hap g' g rfl rfl
        refine .inr ⟨g', rfl, hB, h.only ho hgg, fun o => ?_⟩
        rw [World.frozen?_of_block (w := w) (a := ⟨g', o, none⟩) (ho.block g' hgg)]; exact hf o
theorem Sl.onlyB {w w' : World} {a b : Option Addr} {xs ys : List (Int × Int)} {B : Nat} (h : Sl w a xs) (ho : OnlyB b ys w w') (hb : ∀ g, ys ≠ [] → b = some ⟨g, 0, none⟩ → B ≤ g) (ha : ∀ x, a = some x → x.block < B) : Sl w' a xs := by
  rcases ho with ⟨_, rfl⟩ | ⟨g, hne, rfl, ho⟩
  · exact h
  · rcases h with h | ⟨b, off, rfl, h⟩
    · exact .inl h
    · exact .inr ⟨b, off, rfl, h.only ho (by have := hb g hne rfl; have := ha _ rfl; simp at this; omega)⟩
theorem marks_nil (k : Int) : marks k 0 = [] := rfl
theorem nil_of {xs : List (Int × Int)} (h : xs.length = 0) : xs = [] := List.eq_nil_of_length_eq_zero h
end Go.Proofs.Ytiibonnchmphcaa.Own

namespace Go.Proofs.Ytiibonnchmphcaa.Own
open Go.RowKit

structure Turned (L : List Nat) (w w' : World) : Prop where
  os : w'.os = w.os
  tape : w'.tape = w.tape
  output : w'.output = w.output
  size : w.heap.size ≤ w'.heap.size
  block : ∀ k, k < w.heap.size → k ∉ L → w'.heap[k]? = w.heap[k]?

theorem Turned.refl (L : List Nat) (w : World) : Turned L w w := ⟨rfl, rfl, rfl, Nat.le_refl _, fun _ _ _ => rfl⟩
theorem Turned.trans {L : List Nat} {a b c : World} (h : Turned L a b) (k : Turned L b c) : Turned L a c :=
  ⟨k.os.trans h.os, k.tape.trans h.tape, k.output.trans h.output, Nat.le_trans h.size k.size, fun i hi hn => (k.block i (Nat.lt_of_lt_of_le hi h.size) hn).trans (h.block i hi hn)⟩
theorem Turned.ofBelow {L : List Nat} {w w' : World} (h : Below w.heap.size w w') : Turned L w w' := ⟨h.os, h.tape, h.output, h.size, fun k hk _ => h.block k hk⟩
theorem Turned.ofOnly {L : List Nat} {g : Nat} {w w' : World} (h : Only g w w') (hg : g ∈ L) : Turned L w w' :=
  ⟨h.os, h.tape, h.output, Nat.le_of_eq h.size.symm, fun k _ hn => h.block k (fun e => hn (e ▸ hg))⟩
theorem Turned.ofOnlyB {L : List Nat} {a : Option Addr} {xs : List (Int × Int)} {w w' : World} (h : OnlyB a xs w w') (hg : ∀ g, a = some ⟨g, 0, none⟩ → g ∈ L) : Turned L w w' := by
  rcases h with ⟨_, rfl⟩ | ⟨g, _, e, h⟩
  · exact Turned.refl _ _
  · exact Turned.ofOnly h (hg g e)
theorem Turned.mono {L L' : List Nat} {w w' : World} (h : Turned L w w') (hs : ∀ x, x ∈ L → x ∈ L') : Turned L' w w' :=
  ⟨h.os, h.tape, h.output, h.size, fun k hk hn => h.block k hk (fun e => hn (hs _ e))⟩
theorem Turned.below {L : List Nat} {w w' : World} {B : Nat} (h : Turned L w w') (hL : ∀ x, x ∈ L → B ≤ x) (hB : B ≤ w.heap.size) : Below B w w' :=
  ⟨h.os, h.tape, h.output, h.size, fun k hk => h.block k (by omega) (fun e => by have := hL _ e; omega)⟩
theorem BoxAt.turned {L : List Nat} {w w' : World} {b off : Nat} {xs : List (Int × Int)} (h : BoxAt w b off xs) (ht : Turned L w w') (hb : b ∉ L) : BoxAt w' b off xs := by
  have e : ∀ o, w'.cell? ⟨b, o, none⟩ = w.cell? ⟨b, o, none⟩ := fun o => World.cell?_of_block (w := w) (a := ⟨b, o, none⟩) (ht.block b h.1 hb)
  exact ⟨Nat.lt_of_lt_of_le h.1 ht.size, fun i hi => by rw [e, e]; exact h.2 i hi⟩
theorem Sl.turned {L : List Nat} {w w' : World} {a : Option Addr} {xs : List (Int × Int)} (h : Sl w a xs) (ht : Turned L w w') (hb : ∀ x, a = some x → x.block ∉ L) : Sl w' a xs := by
  rcases h with h | ⟨b, off, rfl, h⟩
  · exact .inl h
  · exact .inr ⟨b, off, rfl, h.turned ht (hb _ rfl)⟩
theorem OwnB.turned {L : List Nat} {w w' : World} {B : Nat} {a : Option Addr} {xs : List (Int × Int)} (h : OwnB w B a xs) (ht : Turned L w w') (hb : ∀ g, a = some ⟨g, 0, none⟩ → g ∉ L) : OwnB w' B a xs := by
  rcases h with h | ⟨g, rfl, hB, h, hf⟩
  · exact .inl h
  · exact .inr ⟨g, rfl, hB, h.turned ht (hb g rfl), fun o => by rw [World.frozen?_of_block (w := w) (a := ⟨g, o, none⟩) (ht.block g h.1 (hb g rfl))]; exact hf o⟩
theorem C4.turned {L : List Nat} {w w' : World} {b : Nat} {x0 x1 x2 x3 : Value} (h : C4 w b x0 x1 x2 x3) (ht : Turned L w w') (hb : b ∉ L) : C4 w' b x0 x1 x2 x3 := by
  have e : ∀ o, w'.cell? ⟨b, o, none⟩ = w.cell? ⟨b, o, none⟩ := fun o => World.cell?_of_block (w := w) (a := ⟨b, o, none⟩) (ht.block b h.1 hb)
  refine ⟨Nat.lt_of_lt_of_le h.1 ht.size, ?_⟩
  rw [e, e, e, e]; exact h.2
end Go.Proofs.Ytiibonnchmphcaa.Own

namespace Go.Proofs.Ytiibonnchmphcaa.Own
open Go.RowKit
set_option linter.unusedVariables false

theorem Turned.set {L : List Nat} {a b : World} {p : Addr} (h : Turned L a b) (hp : p.block ∈ L) (v : Value) : Turned L a (b.setCell p v) :=
  ⟨h.os, h.tape, h.output, by simpa [World.setCell] using h.size, fun i hi hn => by rw [Below.heap_setCell _ _ _ _ (fun e => hn (by rw [e]; exact hp))]; exact h.block i hi hn⟩
theorem Turned.alloc {L : List Nat} {a b : World} (h : Turned L a b) (o : Obj) : Turned L a (b.alloc o) := h.trans (Turned.ofBelow (below_new _ _))
theorem Turned.drew {L : List Nat} {a b : World} (h : Turned L a b) : Turned L a b.drew := h.trans ⟨rfl, rfl, rfl, Nat.le_refl _, fun _ _ _ => rfl⟩
theorem Turned.drewN {L : List Nat} {a b : World} (h : Turned L a b) (n : Nat) : Turned L a (b.drewN n) := h.trans ⟨rfl, rfl, rfl, Nat.le_refl _, fun _ _ _ => rfl⟩
theorem Turned.ofGrown {L : List Nat} {w w' : World} {row : Option Nat} (h : w.grownBy w' row) (hr : ∀ g, row = some g → g ∈ L) : Turned L w w' :=
  ⟨h.os, h.tape, h.output, h.size, fun k hk hn => h.block k hk (fun e => hn (hr k e.symm))⟩
theorem OwnP.turned {L : List Nat} {t : TypeId} {w w' : World} {B : Nat} {v : Value} {xs : List P2} (h : OwnP t w B v xs) (ht : Turned L w w') (hv : ∀ g, v.ownBlock = some g → g ∉ L) : OwnP t w' B v xs := by
  obtain ⟨h1, h2⟩ := h
  refine ⟨h1, ?_⟩
  rcases h2 with h2 | ⟨g, cap, cur, e, hg, hh, r⟩
  · exact .inl h2
  · exact .inr ⟨g, cap, cur, e, hg, by rw [ht.block g (Array.getElem?_eq_some_iff.1 hh).1 (hv g (by rw [e]; rfl))]; exact hh, r⟩
theorem IntAt.turned {L : List Nat} {w w' : World} {b off : Nat} {xs : List Int} (h : IntAt w b off xs) (ht : Turned L w w') (hb : b ∉ L) : IntAt w' b off xs :=
  h.congr (Nat.lt_of_lt_of_le h.1 ht.size) (fun o => World.cell?_of_block (w := w) (a := ⟨b, o, none⟩) (ht.block b h.1 hb))
theorem IntAt.set0 {w : World} {b : Nat} {xs : List Int} (h : IntAt w b 0 xs) (i : Nat) (hi : i < xs.length) (n : Int) : IntAt (w.setCell ⟨b, i, none⟩ (.int .i64 n)) b 0 (xs.set i n) := by
  refine ⟨by simpa [World.setCell] using h.1, fun j hj => ?_⟩
  rw [List.length_set] at hj
  have hx := h.2 j hj
  rw [Nat.zero_add] at hx ⊢
  by_cases e : i = j
  · subst e
    rw [setCell_cell_same _ _ _ _ _ hx]
    simp [List.getD, hi]
  · rw [setCell_cell_other _ _ _ _ _ e, hx]
    simp [List.getD, e]

/-- Of the blocks below B none but rg has turned. -/
structure Kp (B rg : Nat) (w w' : World) : Prop where
  os : w'.os = w.os
  tape : w'.tape = w.tape
  output : w'.output = w.output
  size : w.heap.size ≤ w'.heap.size
  block : ∀ k, k < B → k ≠ rg → w'.heap[k]? = w.heap[k]?
theorem Kp.refl (B rg : Nat) (w : World) : Kp B rg w w := ⟨rfl, rfl, rfl, Nat.le_refl _, fun _ _ _ => rfl⟩
theorem Kp.trans {B rg : Nat} {a b c : World} (h : Kp B rg a b) (k : Kp B rg b c) : Kp B rg a c :=
  ⟨k.os.trans h.os, k.tape.trans h.tape, k.output.trans h.output, Nat.le_trans h.size k.size, fun i hi hn => (k.block i hi hn).trans (h.block i hi hn)⟩
theorem Turned.kp {L : List Nat} {w w' : World} {B rg : Nat} (h : Turned L w w') (hB : B ≤ w.heap.size) (hL : ∀ x, x ∈ L → B ≤ x ∨ x = rg) : Kp B rg w w' :=
  ⟨h.os, h.tape, h.output, h.size, fun k hk hn => h.block k (by omega) (fun e => by rcases hL k e with h | h <;> omega)⟩

/-- A run under way: its registers in block rg, what it looked into and what it would put in rows of its own from B on. -/
structure Held (B rg : Nat) (w : World) (rv pv : Value) (s : RunSt) : Prop where
  regs : IntAt w rg 0 s.regs
  four : s.regs.length = 4
  free : ∀ o, w.frozen? ⟨rg, o, none⟩ = false
  reads : OwnP 38 w B rv s.reads
  puts : OwnP 50 w B pv s.puts
  apart : rv.ownBlock = none ∨ rv.ownBlock ≠ pv.ownBlock

theorem Held.turned {L : List Nat} {B rg : Nat} {w w' : World} {rv pv : Value} {s : RunSt} (h : Held B rg w rv pv s) (ht : Turned L w w') (hg : rg ∉ L) (hr : ∀ g, rv.ownBlock = some g → g ∉ L) (hp : ∀ g, pv.ownBlock = some g → g ∉ L) : Held B rg w' rv pv s :=
  ⟨h.regs.turned ht hg, h.four, fun o => by rw [World.frozen?_of_block (w := w) (a := ⟨rg, o, none⟩) (ht.block rg h.regs.1 hg)]; exact h.free o, h.reads.turned ht hr, h.puts.turned ht hp, h.apart⟩
theorem Held.setR {B rg : Nat} {w : World} {rv pv : Value} {s : RunSt} (h : Held B rg w rv pv s) (hg : rg < B) (a : Nat) (ha : a < 4) (n : Int) : Held B rg (w.setCell ⟨rg, a, none⟩ (.int .i64 n)) rv pv (setReg s a n) := by
  have e : Turned [rg] w (w.setCell ⟨rg, a, none⟩ (.int .i64 n)) := (Turned.refl _ _).set (by simp) _
  refine ⟨h.regs.set0 a (by rw [h.four]; exact ha) n, by simp [setReg, h.four], fun o => by simpa using h.free o, h.reads.turned e (fun g e => ?_), h.puts.turned e (fun g e => ?_), h.apart⟩
  · have := (World.ownsRow.lt h.reads g e).1; simp; omega
  · have := (World.ownsRow.lt h.puts g e).1; simp; omega
theorem Held.code {B rg : Nat} {w : World} {rv pv : Value} {s : RunSt} (h : Held B rg w rv pv s) (c : Int) : Held B rg w rv pv { s with code := c } := ⟨h.regs, h.four, h.free, h.reads, h.puts, h.apart⟩
end Go.Proofs.Ytiibonnchmphcaa.Own

namespace Go.Proofs.Ytiibonnchmphcaa.Own
open Go.RowKit Go.Maps
set_option linter.unusedVariables false

theorem idxBox_map {xs ys : List P2} (h : xs.map Prod.fst = ys.map Prod.fst) (j : Nat) : idxBox xs j = idxBox ys j := by
  have e : ∀ zs : List P2, idxBox zs j = (zs.map Prod.fst).findIdx (fun x => x == (j : Int)) := by
    intro zs
    unfold idxBox
    rw [List.findIdx_map]
    rfl
  rw [e, e, h]
theorem hasBox_putP (ys : List P2) (j i : Nat) (n : Int) : hasBox (putP ys j n) i = (hasBox ys i || decide (j = i)) := by
  cases h : hasBox ys i || decide (j = i) with
  | true =>
    rw [hasBox_iff, putP_fst]
    simp only [Bool.or_eq_true, decide_eq_true_eq] at h
    rcases h with h | rfl
    · have := hasBox_iff.1 h
      split
      · exact this
      · exact List.mem_append_left _ this
    · split
      · rename_i h; exact hasBox_iff.1 h
      · simp
  | false =>
    rw [hasBox_no, putP_fst]
    simp only [Bool.or_eq_false_iff, decide_eq_false_iff_not] at h
    have := hasBox_no.1 h.1
    split
    · exact this
    · simp only [List.mem_append, List.mem_singleton, not_or]
      exact ⟨this, by omega⟩
theorem inBox_put_same (ys : List P2) (j : Nat) (n : Int) : inBox [] (putP ys j n) j = n := by
  have hh := hasBox_putP ys j j n
  simp only [decide_true, Bool.or_true] at hh
  unfold inBox
  rw [if_pos hh]
  cases h : hasBox ys j with
  | true =>
    have hl := idx_lt h
    have e : idxBox (putP ys j n) j = idxBox ys j := idxBox_map (by rw [putP_fst, if_pos h]) j
    rw [e]
    unfold putP
    rw [if_pos h, getD_set2 _ _ _ _ hl, if_pos rfl]
  | false =>
    have e : putP ys j n = ys ++ [((j : Int), n)] := by unfold putP; rw [h]; rfl
    have e2 : idxBox (ys ++ [((j : Int), n)]) j = ys.length := by
      unfold idxBox
      rw [List.findIdx_append]
      have hl : ys.findIdx (fun p => p.1 == (j : Int)) = ys.length := by
        rw [List.findIdx_eq_length]
        unfold hasBox at h
        simp only [List.any_eq_false] at h
        intro x hx
        simpa using h x hx
      rw [hl]
      simp
    rw [e, e2]
    simp [List.getD]
theorem inBox_put_other (ys : List P2) (j i : Nat) (n : Int) (hij : j ≠ i) (hi : hasBox ys i = true) : inBox [] (putP ys j n) i = inBox [] ys i := by
  have hh : hasBox (putP ys j n) i = true := by rw [hasBox_putP, hi]; rfl
  unfold inBox
  rw [if_pos hh, if_pos hi]
  have hl := idx_lt hi
  cases h : hasBox ys j with
  | true =>
    have e : idxBox (putP ys j n) i = idxBox ys i := idxBox_map (by rw [putP_fst, if_pos h]) i
    have hne : idxBox ys j ≠ idxBox ys i := fun e => by
      have h1 := idx_at h
      rw [e, idx_at hi] at h1
      omega
    rw [e]
    unfold putP
    rw [if_pos h, getD_set2 _ _ _ _ (idx_lt h), if_neg hne]
  | false =>
    have e : putP ys j n = ys ++ [((j : Int), n)] := by unfold putP; rw [h]; rfl
    have e2 : idxBox (ys ++ [((j : Int), n)]) i = idxBox ys i := by
      unfold idxBox
      rw [List.findIdx_append]
      have : ys.findIdx (fun p => p.1 == (i : Int)) < ys.length := hl
      rw [if_pos this]
    rw [e, e2]
    simp only [List.getD_eq_getElem?_getD]
    rw [List.getElem?_append_left hl]

theorem intKeys : Keyed Try.prog 3 := int_keyed Try.underlying3
theorem zeroInt (w : World) : (zeroValue 3).run Try.prog w = .ok (.int .i64 0) w := by kernel_rfl
theorem wfNat {j : Nat} (h : j < 4) : (Lit.int .i64 (j : Int)).wf = true := WalkArith.wf_i64 (by omega)
theorem wfNum {n : Int} (h : numOk n = true) : (Lit.int .i64 n).wf = true := by
  simp only [numOk, Bool.and_eq_true, decide_eq_true_eq] at h
  exact WalkArith.wf_i64 (by omega)

/-- Block bm is a map of at most N entries that holds what is put. -/
def MapP (w : World) (bm N : Nat) (ys : List P2) : Prop := ∃ D : DataW Unit, w.ownsMap Try.prog 3 (plainElem Try.prog 3) bm N D ∧
  ∀ j : Nat, j < 4 → Maps.has D (.int .i64 (j : Int)) = hasBox ys j ∧ (hasBox ys j = true → D.atKey (.int .i64 (j : Int)) (.lit (.int .i64 0)) = .lit (.int .i64 (inBox [] ys j)))

theorem MapP.lt {w : World} {bm N : Nat} {ys : List P2} (h : MapP w bm N ys) : bm < w.heap.size := by obtain ⟨D, h, _⟩ := h; exact h.lt
theorem MapP.mono {w : World} {bm N N' : Nat} {ys : List P2} (h : MapP w bm N ys) (hn : N ≤ N') : MapP w bm N' ys := by obtain ⟨D, h, r⟩ := h; exact ⟨D, h.mono hn, r⟩
theorem MapP.made (w : World) : MapP (w.alloc (.map #[] 0)) w.heap.size 0 [] := ⟨_, World.ownsMap_made _ _ _ _, fun j hj => ⟨rfl, fun h => by cases h⟩⟩
theorem MapP.block {w w' : World} {bm N : Nat} {ys : List P2} (h : MapP w bm N ys) (hb : w'.heap[bm]? = w.heap[bm]?) : MapP w' bm N ys := by
  obtain ⟨D, ⟨es, clock, h1, h2⟩, r⟩ := h
  exact ⟨D, ⟨es, clock, by rw [hb]; exact h1, h2⟩, r⟩
theorem lit_inj {a b : Int} (h : (DataW.lit (.int .i64 a) : DataW Unit) = .lit (.int .i64 b)) : a = b := by
  injection h with h
  injection h with _ h
theorem MapP.look_ok {w : World} {bm N : Nat} {ys : List P2} (h : MapP w bm N ys) (j : Nat) (hj : j < 4) :
    ∃ c : Int, (Instr.lookup 92 (.map (some bm)) (.int .i64 (j : Int)) true).run Try.prog w = .ok (.tuple #[.int .i64 c, .bool (hasBox ys j)]) w ∧ (hasBox ys j = true → c = inBox [] ys j) := by
  obtain ⟨D, h, r⟩ := h
  obtain ⟨r1, r2⟩ := r j hj
  obtain ⟨v, ps, hrun, hv⟩ := h.look_ok intKeys Try.underlying92 (zeroInt w) (plainElem_int Try.underlying3 (by decide)) (keyOf_int_mk Try.underlying3 (wfNat hj))
  obtain ⟨c, rfl, hc, _⟩ := plainElem_int_inv Try.underlying3 hv
  refine ⟨c, by rw [hrun, r1], fun hb => ?_⟩
  have h3 : D.atKey (.int .i64 (j : Int)) (.lit (.int .i64 0)) = .lit (.int .i64 c) := congrArg Prod.fst hc
  exact lit_inj ((r2 hb).symm.trans h3).symm
theorem MapP.look_ok' {w : World} {bm N : Nat} {ys : List P2} (h : MapP w bm N ys) (j : Nat) (hj : j < 4) :
    (Instr.lookup 92 (.map (some bm)) (.int .i64 (j : Int)) true).run Try.prog w = .ok (.tuple #[.int .i64 (if hasBox ys j then inBox [] ys j else 0), .bool (hasBox ys j)]) w := by
  obtain ⟨D, h, r⟩ := h
  obtain ⟨r1, r2⟩ := r j hj
  obtain ⟨v, ps, hrun, hv⟩ := h.look_ok intKeys Try.underlying92 (zeroInt w) (plainElem_int Try.underlying3 (by decide)) (keyOf_int_mk Try.underlying3 (wfNat hj))
  obtain ⟨c, rfl, hc, _⟩ := plainElem_int_inv Try.underlying3 hv
  have h3 : D.atKey (.int .i64 (j : Int)) (.lit (.int .i64 0)) = .lit (.int .i64 c) := congrArg Prod.fst hc
  have ec : c = if hasBox ys j then inBox [] ys j else 0 := by
    cases hb : hasBox ys j with
    | true => exact lit_inj (h3.symm.trans (r2 hb))
    | false =>
      rw [hb] at r1
      exact lit_inj (h3.symm.trans (atKey_of_not_has r1 _))
  rw [hrun, r1, ec]
theorem MapP.look {w : World} {bm N : Nat} {ys : List P2} (h : MapP w bm N ys) (j : Nat) (hj : j < 4) (hb : hasBox ys j = true) :
    (Instr.lookup 92 (.map (some bm)) (.int .i64 (j : Int)) false).run Try.prog w = .ok (.int .i64 (inBox [] ys j)) w := by
  obtain ⟨D, h, r⟩ := h
  obtain ⟨r1, r2⟩ := r j hj
  obtain ⟨c, hrun, hat, _⟩ := h.lookup_int intKeys Try.underlying92 Try.underlying3 (zeroInt w) (keyOf_int_mk Try.underlying3 (wfNat hj))
  rw [hrun, lit_inj ((r2 hb).symm.trans hat)]
theorem MapP.put {w : World} {bm N : Nat} {ys : List P2} (h : MapP w bm N ys) (hN : N ≤ 1000) (j : Nat) (hj : j < 4) (n : Int) (hn : numOk n = true) :
    ∃ w', (Instr.mapUpdate 92 (.map (some bm)) (.int .i64 (j : Int)) (.int .i64 n)).run Try.prog w = .ok () w' ∧ MapP w' bm (N + 1) (putP ys j n) ∧ w.mapTurned w' bm := by
  obtain ⟨D, h, r⟩ := h
  obtain ⟨w', hrun, ho, ht⟩ := h.store intKeys Try.underlying92 (by unfold maxLen; omega) (keyOf_int_mk Try.underlying3 (wfNat hj)) (plainElem_int Try.underlying3 (wfNum hn))
  refine ⟨w', hrun, ⟨_, ho, fun i hi => ?_⟩, ht⟩
  obtain ⟨r1, r2⟩ := r i hi
  by_cases e : j = i
  · subst e
    refine ⟨by rw [has_put_same h.isMap (by trivial), hasBox_putP]; simp, fun _ => ?_⟩
    rw [atKey_put_same h.isMap (by trivial), inBox_put_same]
  · have hne : (Lit.int .i64 (i : Int)) ≠ Lit.int .i64 (j : Int) := fun e' => by injection e' with _ e'; omega
    refine ⟨by rw [has_put_other hne, r1, hasBox_putP]; simp [e], fun hb => ?_⟩
    rw [hasBox_putP] at hb
    simp only [e, decide_false, Bool.or_false] at hb
    rw [atKey_put_other hne, r2 hb, inBox_put_other _ _ _ _ e hb]
theorem mapTurned.kq {B bm : Nat} {L : List Nat} {w w' : World} (h : w.mapTurned w' bm) (hB : B ≤ w.heap.size) (hL : bm ∈ L) : Turned L w w' := by
  have g := h.grown
  exact ⟨g.os, g.tape, g.output, g.size, fun k hk hn => g.block k hk (fun e => hn (by injection e with e; rw [e]; exact hL))⟩
theorem mapTurned.turned {bm : Nat} {w w' : World} (h : w.mapTurned w' bm) : Turned [bm] w w' := by
  have g := h.grown
  exact ⟨g.os, g.tape, g.output, g.size, fun k hk hn => g.block k hk (fun e => hn (by injection e with e; rw [e]; simp))⟩
end Go.Proofs.Ytiibonnchmphcaa.Own

namespace Go.Proofs.Ytiibonnchmphcaa.Own
open Go.RowKit
set_option linter.unusedVariables false
set_option linter.unusedSimpArgs false

/-- A run that ends panics with its code. -/
def thrown (c : Int) : Ending := .panicked [{ v := .iface 133 (.int .i64 c), recovered := false }]

set_option maxHeartbeats 1000000 in
theorem setYes (nb a : Nat) (n x : Int) (w : World) (ha : a < 4) (hc : w.cell? ⟨nb, 8 + a, none⟩ = some (.int .i64 x)) (hf : w.frozen? ⟨nb, 8 + a, none⟩ = false) (hn : numOk n = true) :
    Calls Try.prog 135 #[.pointer (some ⟨nb, 0, none⟩), .int .i64 a, .int .i64 n] w fun e w' => e = .returned (.tuple #[]) ∧ w' = w.setCell ⟨nb, 8 + a, none⟩ (.int .i64 n) := by
  have hai : (a : Int) < 4 := by omega
  have CN : Hid (Calls Try.prog 116 #[.int .i64 n] w fun e w' => e = .returned (.bool true) ∧ w' = w) := by
    have := isNumberC n w
    rw [hn] at this
    exact this
  clear hn
  go_enter Try.func135, Try.ntmps135
  go_wp2_with fail
  refine Calls.mono CN.out ?_
  rintro e w1 ⟨rfl, hw⟩
  rw [hw]
  clear hw
  go_wp2_with fail
  go_end0
  exact ⟨rfl, rfl⟩

set_option maxHeartbeats 1000000 in
theorem setNo (nb a : Nat) (n : Int) (w : World) (hn : numOk n = false) :
    Calls Try.prog 135 #[.pointer (some ⟨nb, 0, none⟩), .int .i64 a, .int .i64 n] w fun e w' => e = thrown 2 ∧ w' = w := by
  have CN : Hid (Calls Try.prog 116 #[.int .i64 n] w fun e w' => e = .returned (.bool false) ∧ w' = w) := by
    have := isNumberC n w
    rw [hn] at this
    exact this
  clear hn
  go_enter Try.func135, Try.ntmps135
  go_wp2_with fail
  refine Calls.mono CN.out ?_
  rintro e w1 ⟨rfl, hw⟩
  rw [hw]
  clear hw
  go_wp2_with fail
  exact ⟨rfl, rfl, rfl⟩

theorem failC (p : Option Addr) (w : World) : Calls Try.prog 138 #[.pointer p] w fun e w' => e = thrown 1 ∧ w' = w := by
  go_enter Try.func138, Try.ntmps138
  go_wp2_with fail
  exact ⟨rfl, rfl, rfl⟩
end Go.Proofs.Ytiibonnchmphcaa.Own

namespace Go.Proofs.Ytiibonnchmphcaa.Own
open Go.RowKit
set_option linter.unusedVariables false
set_option linter.unusedSimpArgs false

theorem BoxAt.pre {w : World} {b off : Nat} {xs : List P2} (h : BoxAt w b off xs) (n : Nat) (hn : n ≤ xs.length) : BoxAt w b off (xs.take n) := by
  refine ⟨h.1, fun i hi => ?_⟩
  rw [List.length_take] at hi
  have e : (xs.take n).getD i (0, 0) = xs.getD i (0, 0) := by simp [List.getD, show i < n by omega]
  rw [e]; exact h.2 i (by omega)

/-- The first test of spec.ExecOk. -/
theorem endOk_true {k v : Int} {nr np : Nat} (h : endOk k v nr np = true) : (k = 0 ∧ numOk v = true) ∨ ((k = 1 ∨ k = 2) ∧ v = 0 ∧ np = 0) ∨ (k = 3 ∧ v = 0 ∧ np = 0 ∧ nr = 0) := by
  unfold endOk at h
  split at h
  · exact .inl ⟨by assumption, h⟩
  split at h
  · simp at h; exact .inr (.inl ⟨by assumption, h.1, h.2⟩)
  split at h
  · simp at h; exact .inr (.inr ⟨by assumption, h.1.1, h.1.2, h.2⟩)
  · cases h
theorem endOk_falls {k v : Int} {nr np : Nat} (h : endOk k v nr np = false) : k < 0 ∨ 3 < k ∨ (0 ≤ k ∧ k ≤ 3 ∧ numOk v = false) ∨ (1 ≤ k ∧ k ≤ 3 ∧ numOk v = true ∧ v ≠ 0) ∨ (1 ≤ k ∧ k ≤ 3 ∧ v = 0 ∧ 0 < np) ∨ (k = 3 ∧ v = 0 ∧ np = 0 ∧ 0 < nr) := by
  by_cases h1 : k < 0
  · exact .inl h1
  by_cases h2 : 3 < k
  · exact .inr (.inl h2)
  cases hn : numOk v with
  | false => exact .inr (.inr (.inl ⟨by omega, by omega, rfl⟩))
  | true =>
    by_cases h0 : k = 0
    · subst h0; rw [endOk_0, hn] at h; cases h
    by_cases hv : v = 0
    · subst hv
      by_cases hp : 0 < np
      · exact .inr (.inr (.inr (.inr (.inl ⟨by omega, by omega, rfl, hp⟩))))
      by_cases h3 : k = 3
      · subst h3
        by_cases hr : 0 < nr
        · exact .inr (.inr (.inr (.inr (.inr ⟨rfl, rfl, by omega, hr⟩))))
        · rw [endOk_3] at h; simp at h; omega
      · have : k = 1 ∨ k = 2 := by omega
        rcases this with rfl | rfl
        · rw [endOk_1] at h; simp at h; omega
        · rw [endOk_2] at h; simp at h; omega
    · exact .inr (.inr (.inr (.inl ⟨by omega, by omega, rfl, hv⟩)))

set_option maxRecDepth 100000 in
set_option maxHeartbeats 2000000 in
theorem specExecOk_no (a1 a2 : Option Addr) (n1 c1 n2 c2 : Nat) (v k : Int) (w : World) (h : endOk k v n1 n2 = false) :
    Calls Try.prog 29 #[.agg #[.slice a1 n1 c1, .slice a2 n2 c2, .int .i64 v, .int .i64 k]] w fun e w' => e = .returned (.bool false) ∧ Below w.heap.size w w' := by
  have B0 : ∀ o, Hid (Below w.heap.size w (w.alloc o)) := fun o => (Below.refl _ _).alloc (Nat.le_refl _) _
  rcases endOk_falls h with h | h | ⟨h1, h2, h3⟩ | ⟨h1, h2, h3, h4⟩ | ⟨h1, h2, rfl, h4⟩ | ⟨rfl, rfl, rfl, h4⟩
  · go_enter Try.func29, Try.ntmps29
    go_wp2
    go_ret
    exact ⟨rfl, (B0 _).out⟩
  · have h' : ¬ k < 0 := by omega
    go_enter Try.func29, Try.ntmps29
    go_wp2
    go_ret
    exact ⟨rfl, (B0 _).out⟩
  · have H3 : Hid (numOk v = false) := h3
    clear h3
    go_enter Try.func29, Try.ntmps29
    go_wp2_with fail
    refine (l1Num v _).mono ?_
    rintro e w1 ⟨rfl, rfl⟩
    rw [H3.out]
    go_wp2
    go_ret
    exact ⟨rfl, (B0 _).out⟩
  · have H3 : Hid (numOk v = true) := h3
    have e0 : (k != 0) = true := by simp; omega
    have e1 : (v != 0) = true := by simpa using h4
    clear h3 h4
    go_enter Try.func29, Try.ntmps29
    go_wp2_with fail
    refine (l1Num v _).mono ?_
    rintro e w1 ⟨rfl, rfl⟩
    rw [H3.out]
    go_wp2
    go_ret
    exact ⟨rfl, (B0 _).out⟩
  · have e0 : (k != 0) = true := by simp; omega
    have e1 : decide ((0 : Int) < (n2 : Int)) = true := by simp; omega
    go_enter Try.func29, Try.ntmps29
    go_wp2_with fail
    refine (l1Num 0 _).mono ?_
    rintro e w1 ⟨rfl, rfl⟩
    rw [show numOk 0 = true from rfl]
    go_wp2
    go_ret
    exact ⟨rfl, (B0 _).out⟩
  · have e1 : decide ((0 : Int) < (n1 : Int)) = true := by simp; omega
    go_enter Try.func29, Try.ntmps29
    go_wp2_with fail
    refine (l1Num 0 _).mono ?_
    rintro e w1 ⟨rfl, rfl⟩
    rw [show numOk 0 = true from rfl]
    go_wp2
    go_ret
    exact ⟨rfl, (B0 _).out⟩
end Go.Proofs.Ytiibonnchmphcaa.Own

namespace Go.Proofs.Ytiibonnchmphcaa.Own
open Go.RowKit
set_option linter.unusedVariables false
set_option linter.unusedSimpArgs false

set_option maxRecDepth 100000 in
set_option maxHeartbeats 4000000 in
theorem specExecOk_yes (a1 a2 : Option Addr) (c1 c2 : Nat) (xs ys : List P2) (v k : Int) (w : World) (h1 : Sl w a1 xs) (h2 : Sl w a2 ys) (hn1 : xs.length ≤ 2 ^ 40) (hn2 : ys.length ≤ 2 ^ 40) (hc1 : xs.length ≤ c1) (hc2 : ys.length ≤ c2) (he : endOk k v xs.length ys.length = true) :
    Calls Try.prog 29 #[.agg #[.slice a1 xs.length c1, .slice a2 ys.length c2, .int .i64 v, .int .i64 k]] w fun e w' => e = .returned (.bool (okAll verOk xs && okAll numOk ys)) ∧ Below w.heap.size w w' := by
  obtain ⟨n1, l1⟩ : ∃ n, xs.length = n := ⟨_, rfl⟩
  obtain ⟨n2, l2⟩ : ∃ n, ys.length = n := ⟨_, rfl⟩
  rw [l1] at hn1 hc1 he ⊢
  rw [l2] at hn2 hc2 he ⊢
  have L1 : Hid (xs.length = n1) := l1
  have L2 : Hid (ys.length = n2) := l2
  clear l1 l2
  have H1 : Hid (Sl w a1 xs) := h1
  have H2 : Hid (Sl w a2 ys) := h2
  clear h1 h2
  obtain ⟨W, hW⟩ : ∃ W, W = w.alloc (.cells #[.slice a1 n1 c1, .slice a2 n2 c2, .int .i64 v, .int .i64 k] 30) := ⟨_, rfl⟩
  have hbW : Hid (Below w.heap.size w W) := by
    show Below _ _ _
    rw [hW]; exact (Below.refl _ _).alloc (Nat.le_refl _) _
  have hsW : Hid (W.heap.size = w.heap.size + 1) := by show _ = _; rw [hW]; simp
  have g0 : Hid (W.heap[w.heap.size]? = some (.cells #[.slice a1 n1 c1, .slice a2 n2 c2, .int .i64 v, .int .i64 k] 30 (0, 0))) := by
    show _ = _
    rw [hW]; exact heap_new _ _
  have HW : Hid (W = _) := hW
  clear hW
  have HN : Hid (numOk v = true) := by
    rcases endOk_true he with ⟨_, h⟩ | ⟨_, rfl, _⟩ | ⟨_, rfl, _⟩
    · exact h
    · rfl
    · rfl
  have hcases : (¬ k < 0 ∧ ¬ 3 < k) ∧ (((k != 0) = false ∧ (k == 3) = false) ∨ ((k != 0) = true ∧ (v != 0) = false ∧ n2 = 0 ∧ (k == 3) = false) ∨ ((k != 0) = true ∧ (v != 0) = false ∧ n2 = 0 ∧ (k == 3) = true ∧ n1 = 0)) := by
    rcases endOk_true he with ⟨rfl, _⟩ | ⟨h, rfl, h2⟩ | ⟨rfl, rfl, h2, h3⟩
    · exact ⟨by omega, .inl ⟨rfl, rfl⟩⟩
    · refine ⟨by omega, .inr (.inl ⟨by simp; omega, rfl, h2, by simp; omega⟩)⟩
    · exact ⟨by omega, .inr (.inr ⟨rfl, rfl, h2, rfl, h3⟩)⟩
  clear he
  have HC : Hid ((¬ k < 0 ∧ ¬ 3 < k) ∧ (((k != 0) = false ∧ (k == 3) = false) ∨ ((k != 0) = true ∧ (v != 0) = false ∧ n2 = 0 ∧ (k == 3) = false) ∨ ((k != 0) = true ∧ (v != 0) = false ∧ n2 = 0 ∧ (k == 3) = true ∧ n1 = 0))) := hcases
  clear hcases
  go_enter Try.func29, Try.ntmps29
  go_upto_region 1 with fail
  go_cut [45] from 5 to 45 (fun c wx => c = .bool false ∧ wx = W)
  case first =>
    obtain ⟨⟨k0, k3⟩, hcases⟩ := HC.out
    rcases hcases with ⟨e0, e3⟩ | ⟨e0, ev, rfl, e3⟩ | ⟨e0, ev, rfl, e3, rfl⟩
    all_goals
      go_wp2_with fail
      refine (l1Num v _).mono ?_
      rintro e w1 ⟨rfl, rfl⟩
      rw [HN.out]
      go_wp2_with fail
      go_meet
      exact ⟨rfl, HW.out.symm⟩
  case rest =>
    obtain ⟨rfl, hwc⟩ := hcut
    have hwc' := hwc.symm
    subst hwc'
    clear HC HN hwc
    have q0 : W.cell? ⟨w.heap.size, 0, none⟩ = some (.slice a1 n1 c1) := by rw [cell_heap g0.out]; rfl
    have q1 : W.cell? ⟨w.heap.size, 1, none⟩ = some (.slice a2 n2 c2) := by rw [cell_heap g0.out]; rfl
    go_wp2_with fail
    go_loopw [3] (fun i wr => ∃ j : Nat, j ≤ n1 ∧ i = .int .i64 j ∧ Hid (∀ i, i < j → okAt verOk xs i = true) ∧ Below W.heap.size W wr) (fun i _ => n1 - (intOf i).toNat)
    case atStart => exact ⟨0, Nat.zero_le _, rfl, fun i hi => by omega, Below.refl _ _⟩
    case round =>
      obtain ⟨j, hj, rfl, hA, hB⟩ := hrel
      have HB : Hid (Below W.heap.size W wr) := hB
      have s0 : wr.cell? ⟨w.heap.size, 0, none⟩ = some (.slice a1 n1 c1) := by rw [hB.cell (p := ⟨w.heap.size, 0, none⟩) (by show w.heap.size < _; have := hsW.out; omega)]; exact q0
      have s1 : wr.cell? ⟨w.heap.size, 1, none⟩ = some (.slice a2 n2 c2) := by rw [hB.cell (p := ⟨w.heap.size, 1, none⟩) (by show w.heap.size < _; have := hsW.out; omega)]; exact q1
      clear q0 q1
      by_cases hlt : j < n1
      · rcases H1.out with h | ⟨b1, o1, rfl, h1⟩
        · have := L1.out; subst h; simp at this; omega
        have H1' : Hid (BoxAt wr b1 o1 xs) := (h1.below hbW.out).below hB
        clear h1 hB
        obtain ⟨p, hp⟩ : ∃ p, p = xs.getD j (0, 0) := ⟨_, rfl⟩
        obtain ⟨ca, cb⟩ := H1'.out.2 j (by rw [L1.out]; exact hlt)
        rw [← hp] at ca cb
        have HP : Hid (p = xs.getD j (0, 0)) := hp
        clear hp
        obtain ⟨p1, p2⟩ := p
        have HS : Hid (okAt verOk xs j = (regOk p1 && verOk p2 && !((xs.take j).any fun p => p.1 == p1))) := by show _ = _; unfold okAt; rw [← HP.out]
        have SC : Hid (∀ n, Calls Try.prog 89 #[.slice (some ⟨b1, o1, none⟩) j c1, .int .i64 p1] (wr.drewN n) fun e w' => e = .returned (.bool ((xs.take j).any fun p => p.1 == p1)) ∧ w' = wr.drewN n) := fun n =>
          l3Saw (some ⟨b1, o1, none⟩) c1 j (xs.take j) p1 _ (.inr ⟨_, _, rfl, H1'.out.pre j (by have := L1.out; omega)⟩) (by have := L1.out; simp; omega) (by omega)
        generalize ((xs.take j).any fun p => p.1 == p1) = sn at HS SC
        have hjc : j ≤ c1 := by omega
        go_upto_region 6 with fail
        go_cut [91] from 46 to 91 (fun c wx => c = .bool (!(regOk p1 && verOk p2 && !sn)) ∧ Below W.heap.size W wx)
        case first =>
          cases hr : regOk p1 with
          | false =>
            go_quiet ((first | (go_at_call 88; exact Calls.quiet_of_same (l2Box _ _)) | (go_at_call 89; exact Calls.quiet_of_same (SC.out _))))
            go_wp2
            go_meet
            exact ⟨by rw [hr]; rfl, below_drewN HB.out _⟩
          | true =>
            by_cases t1 : p2 < 0
            · have V : Hid (verOk p2 = false) := by show _ = _; simp [verOk]; omega
              go_quiet ((first | (go_at_call 88; exact Calls.quiet_of_same (l2Box _ _)) | (go_at_call 89; exact Calls.quiet_of_same (SC.out _))))
              go_wp2
              go_meet
              exact ⟨by rw [hr, V.out]; rfl, below_drewN HB.out _⟩
            · by_cases t2 : 1000000 < p2
              · have V : Hid (verOk p2 = false) := by show _ = _; simp [verOk]; omega
                have t2' : decide (1000000 < p2) = true := by simpa using t2
                go_quiet ((first | (go_at_call 88; exact Calls.quiet_of_same (l2Box _ _)) | (go_at_call 89; exact Calls.quiet_of_same (SC.out _))))
                go_wp2
                go_meet
                exact ⟨by rw [hr, V.out]; rfl, below_drewN HB.out _⟩
              · have V : Hid (verOk p2 = true) := by show _ = _; simp [verOk]; omega
                go_quiet ((first | (go_at_call 88; exact Calls.quiet_of_same (l2Box _ _)) | (go_at_call 89; exact Calls.quiet_of_same (SC.out _))))
                go_wp2
                go_meet
                exact ⟨by rw [hr, V.out]; cases sn <;> rfl, below_drewN HB.out _⟩
        case rest =>
          obtain ⟨rfl, hB2⟩ := hcut
          rw [← HS.out]
          have HB2 : Hid (Below W.heap.size W wc) := hB2
          clear hB2 HB ca cb s0 s1 HP HS SC H1'
          cases ho : okAt verOk xs j with
          | false =>
            have F' : Hid ((okAll verOk xs && okAll numOk ys) = false) := by show _ = _; rw [okAll_false (by rw [L1.out]; exact hlt) ho]; rfl
            go_wp2
            go_ret
            exact ⟨ret_bool F'.out.symm, hbW.out.trans (HB2.out.mono (by have := hsW.out; omega))⟩
          | true =>
            have N : Hid (∀ i, i < j + 1 → okAt verOk xs i = true) := by
              intro i hi
              by_cases e : i = j
              · subst e; exact ho
              · exact hA.out i (by omega)
            clear ho
            go_wp2
            go_roundw
            case rel => exact ⟨j + 1, by omega, by go_num, N, HB2.out⟩
            case measure => simp [intOf]; omega
      · have HA : Hid (okAll verOk xs = true) := by
          have h1 : j = n1 := by omega
          have h2 := hA.out
          rw [h1, ← L1.out] at h2
          exact okAll_iff.2 h2
        have E : Hid ((okAll verOk xs && okAll numOk ys) = okAll numOk ys) := by show _ = _; rw [HA.out]; rfl
        clear hA hB HA
        go_wp2_with fail
        go_loopw [4] (fun i ws => ∃ j : Nat, j ≤ n2 ∧ i = .int .i64 j ∧ Hid (∀ i, i < j → okAt numOk ys i = true) ∧ Below W.heap.size W ws) (fun i _ => n2 - (intOf i).toNat)
        case atStart => exact ⟨0, Nat.zero_le _, rfl, fun i hi => by omega, HB.out⟩
        case round =>
          clear s0 s1 HB hlt hj
          obtain ⟨m, hm, rfl, hA, hB⟩ := hrel
          have HB : Hid (Below W.heap.size W wr) := hB
          have s1 : wr.cell? ⟨w.heap.size, 1, none⟩ = some (.slice a2 n2 c2) := by rw [hB.cell (p := ⟨w.heap.size, 1, none⟩) (by show w.heap.size < _; have := hsW.out; omega), cell_heap g0.out]; rfl
          by_cases hlt : m < n2
          · rcases H2.out with h | ⟨b1, o1, rfl, h1⟩
            · have := L2.out; subst h; simp at this; omega
            have H1' : Hid (BoxAt wr b1 o1 ys) := (h1.below hbW.out).below hB
            clear h1 hB
            obtain ⟨p, hp⟩ : ∃ p, p = ys.getD m (0, 0) := ⟨_, rfl⟩
            obtain ⟨ca, cb⟩ := H1'.out.2 m (by rw [L2.out]; exact hlt)
            rw [← hp] at ca cb
            have HP : Hid (p = ys.getD m (0, 0)) := hp
            clear hp
            obtain ⟨p1, p2⟩ := p
            have HS : Hid (okAt numOk ys m = (regOk p1 && numOk p2 && !((ys.take m).any fun p => p.1 == p1))) := by show _ = _; unfold okAt; rw [← HP.out]
            have SC : Hid (∀ n, Calls Try.prog 90 #[.slice (some ⟨b1, o1, none⟩) m c2, .int .i64 p1] (wr.drewN n) fun e w' => e = .returned (.int .i64 (placeOf (ys.take m) p1)) ∧ w' = wr.drewN n) := fun n =>
              l3At (some ⟨b1, o1, none⟩) c2 m (ys.take m) p1 _ (.inr ⟨_, _, rfl, H1'.out.pre m (by have := L2.out; omega)⟩) (by have := L2.out; simp; omega) (by omega)
            have SP : Hid (decide (placeOf (ys.take m) p1 ≥ 0) = ((ys.take m).any fun p => p.1 == p1)) := placeOf_neg _ _
            generalize ((ys.take m).any fun p => p.1 == p1) = sn at HS SP
            generalize placeOf (ys.take m) p1 = pl at SC SP
            have hjc : m ≤ c2 := by omega
            go_upto_region 11 with fail
            go_cut [130] from 92 to 130 (fun c wx => c = .bool (!(regOk p1 && numOk p2 && !sn)) ∧ Below W.heap.size W wx)
            case first =>
              cases hr : regOk p1 with
              | false =>
                go_quiet ((first | (go_at_call 88; exact Calls.quiet_of_same (l2Box _ _)) | (go_at_call 78; exact Calls.quiet_of_same (l1Num _ _)) | (go_at_call 90; exact Calls.quiet_of_same (SC.out _))))
                go_wp2
                go_meet
                exact ⟨by rw [hr]; rfl, below_drewN HB.out _⟩
              | true =>
                cases hv : numOk p2 with
                | false =>
                  go_quiet ((first | (go_at_call 88; exact Calls.quiet_of_same (l2Box _ _)) | (go_at_call 78; exact Calls.quiet_of_same (l1Num _ _)) | (go_at_call 90; exact Calls.quiet_of_same (SC.out _))))
                  go_wp2
                  go_meet
                  exact ⟨by rw [hr, hv]; rfl, below_drewN HB.out _⟩
                | true =>
                  go_quiet ((first | (go_at_call 88; exact Calls.quiet_of_same (l2Box _ _)) | (go_at_call 78; exact Calls.quiet_of_same (l1Num _ _)) | (go_at_call 90; exact Calls.quiet_of_same (SC.out _))))
                  go_wp2
                  go_meet
                  exact ⟨by rw [hr, hv, ← SP.out]; simp, below_drewN HB.out _⟩
            case rest =>
              obtain ⟨rfl, hB2⟩ := hcut
              rw [← HS.out]
              have HB2 : Hid (Below W.heap.size W wc) := hB2
              clear hB2 HB ca cb s1 HP HS SC H1' SP
              cases ho : okAt numOk ys m with
              | false =>
                have F' : Hid (okAll numOk ys = false) := okAll_false (by rw [L2.out]; exact hlt) ho
                go_wp2
                go_ret
                exact ⟨ret_bool (by rw [E.out]; exact F'.out.symm), hbW.out.trans (HB2.out.mono (by have := hsW.out; omega))⟩
              | true =>
                have N : Hid (∀ i, i < m + 1 → okAt numOk ys i = true) := by
                  intro i hi
                  by_cases e : i = m
                  · subst e; exact ho
                  · exact hA.out i (by omega)
                clear ho
                go_wp2
                go_roundw
                case rel => exact ⟨m + 1, by omega, by go_num, N, HB2.out⟩
                case measure => simp [intOf]; omega
          · have HA : Hid (okAll numOk ys = true) := by
              have h1 : m = n2 := by omega
              have h2 := hA.out
              rw [h1, ← L2.out] at h2
              exact okAll_iff.2 h2
            clear hA hB
            go_wp2
            go_ret
            exact ⟨ret_bool (by rw [E.out]; exact HA.out.symm), hbW.out.trans (HB.out.mono (by have := hsW.out; omega))⟩

theorem specExecOk (a1 a2 : Option Addr) (c1 c2 : Nat) (xs ys : List P2) (v k : Int) (w : World) (h1 : Sl w a1 xs) (h2 : Sl w a2 ys) (hn1 : xs.length ≤ 2 ^ 40) (hn2 : ys.length ≤ 2 ^ 40) (hc1 : xs.length ≤ c1) (hc2 : ys.length ≤ c2) :
    Calls Try.prog 29 #[.agg #[.slice a1 xs.length c1, .slice a2 ys.length c2, .int .i64 v, .int .i64 k]] w fun e w' => e = .returned (.bool (execOk xs ys v k)) ∧ Below w.heap.size w w' := by
  unfold execOk
  cases he : endOk k v xs.length ys.length with
  | false => exact specExecOk_no a1 a2 _ c1 _ c2 v k w he
  | true =>
    refine (specExecOk_yes a1 a2 c1 c2 xs ys v k w h1 h2 hn1 hn2 hc1 hc2 he).mono ?_
    rintro e w' ⟨rfl, hb⟩
    exact ⟨by simp, hb⟩
end Go.Proofs.Ytiibonnchmphcaa.Own

namespace Go.Proofs.Ytiibonnchmphcaa.Own
open Go.RowKit
set_option linter.unusedVariables false
set_option linter.unusedSimpArgs false

set_option maxRecDepth 100000 in
set_option maxHeartbeats 2000000 in
theorem specExecFresh (a : Option Addr) (c : Nat) (bs : List P2) (a1 a2 : Option Addr) (c1 c2 : Nat) (xs ys : List P2) (v k : Int) (w : World) (h0 : Sl w a bs) (hn0 : bs.length ≤ 2 ^ 40) (h1 : Sl w a1 xs) (h2 : Sl w a2 ys) (hn1 : xs.length ≤ 2 ^ 40) (hn2 : ys.length ≤ 2 ^ 40) (hc1 : xs.length ≤ c1) (hc2 : ys.length ≤ c2) :
    Calls Try.prog 30 #[.slice a bs.length c, .agg #[.slice a1 xs.length c1, .slice a2 ys.length c2, .int .i64 v, .int .i64 k]] w fun e w' => e = .returned (.bool (execFresh bs xs ys v k)) ∧ Below w.heap.size w w' := by
  have H0 : Hid (Sl w a bs) := h0
  have H1 : Hid (Sl w a1 xs) := h1
  have H2 : Hid (Sl w a2 ys) := h2
  clear h0 h1 h2
  have E : Hid (execFresh bs xs ys v k = (boxOk bs && execOk xs ys v k && xs.all (freshAt bs))) := rfl
  obtain ⟨W, hW⟩ : ∃ W, W = w.alloc (.cells #[.slice a1 xs.length c1, .slice a2 ys.length c2, .int .i64 v, .int .i64 k] 30) := ⟨_, rfl⟩
  have BW : Hid (Below w.heap.size w W) := by show Below _ _ _; rw [hW]; exact below_new _ _
  have P0 : Hid (C4 W w.heap.size (.slice a1 xs.length c1) (.slice a2 ys.length c2) (.int .i64 v) (.int .i64 k)) := by show C4 _ _ _ _ _ _; rw [hW]; exact C4.new _ _ _ _ _ _
  have HW : Hid (W = _) := hW
  clear hW
  have CB := specOk a c bs W (H0.out.below BW.out) hn0
  cases hb : boxOk bs with
  | false =>
    rw [hb] at CB
    have CB' : Hid _ := CB
    clear CB
    go_enter Try.func30, Try.ntmps30
    go_wp2_with fail
    rw [← HW.out]
    refine Calls.mono CB'.out ?_
    rintro e w1 ⟨rfl, rfl⟩
    go_wp2_with fail
    go_ret
    exact ⟨ret_bool (by rw [E.out, hb]; rfl), BW.out⟩
  | true =>
    rw [hb] at CB
    have CB' : Hid _ := CB
    have HL : Hid (bs.length = 4) := boxOk_len hb
    have HBO : Hid (boxOk bs = true) := hb
    clear CB hb
    go_enter Try.func30, Try.ntmps30
    go_wp2_with fail
    rw [← HW.out]
    refine Calls.mono CB'.out ?_
    rintro e w1 ⟨rfl, hw1⟩
    subst hw1
    obtain ⟨_, q0, q1, q2, q3⟩ := P0.out
    have CE := specExecOk a1 a2 c1 c2 xs ys v k w1 (H1.out.below BW.out) (H2.out.below BW.out) hn1 hn2 hc1 hc2
    cases he : execOk xs ys v k with
    | false =>
      rw [he] at CE
      have CE' : Hid _ := CE
      clear CE
      go_wp2_with fail
      refine Calls.mono CE'.out ?_
      rintro e w2 ⟨rfl, b2⟩
      have B2 : Hid (Below w.heap.size w w2) := BW.out.trans (b2.mono BW.out.size)
      clear b2
      go_wp2_with fail
      go_ret
      exact ⟨ret_bool (by rw [E.out, he]; simp), B2.out⟩
    | true =>
      rw [he] at CE
      have CE' : Hid _ := CE
      have E2 : Hid (execFresh bs xs ys v k = xs.all (freshAt bs)) := by show _ = _; rw [E.out, he, HBO.out]; rfl
      have HR : Hid (okAll verOk xs = true) := execOk_reads he
      clear CE he
      go_wp2_with fail
      refine Calls.mono CE'.out ?_
      rintro e w2 ⟨rfl, b2⟩
      have B2 : Hid (Below w1.heap.size w1 w2) := b2
      clear b2 q0 q1 q2 q3
      obtain ⟨_, q0, _, _, _⟩ := P0.out.below B2.out
      go_wp2_with fail
      go_loopw [5] (fun i wr => ∃ j : Nat, j ≤ xs.length ∧ i = .int .i64 j ∧ Hid ((xs.take j).all (freshAt bs) = true) ∧ Below w1.heap.size w1 wr) (fun i _ => xs.length - (intOf i).toNat)
      case atStart => exact ⟨0, Nat.zero_le _, rfl, rfl, B2.out⟩
      case round =>
        clear q0
        obtain ⟨j, hj, rfl, hA, hB⟩ := hrel
        have HB : Hid (Below w1.heap.size w1 wr) := hB
        obtain ⟨_, q0, _, _, _⟩ := P0.out.below hB
        by_cases hlt : j < xs.length
        · rcases H1.out with h | ⟨b1, o1, rfl, h1⟩
          · subst h; simp at hlt
          have H1' : Hid (BoxAt wr b1 o1 xs) := (h1.below BW.out).below hB
          rcases H0.out with h | ⟨b0, o0, rfl, h0⟩
          · have := HL.out; subst h; simp at this
          have H0' : Hid (BoxAt wr b0 o0 bs) := (h0.below BW.out).below hB
          clear h1 h0 hB
          obtain ⟨p, hp⟩ : ∃ p, p = xs.getD j (0, 0) := ⟨_, rfl⟩
          obtain ⟨ca, cb⟩ := H1'.out.2 j hlt
          rw [← hp] at ca cb
          have HP : Hid (p = xs.getD j (0, 0)) := hp
          clear hp
          obtain ⟨p1, p2⟩ := p
          obtain ⟨m, hm, hm1⟩ := okAll_box HR.out j hlt
          rw [← HP.out] at hm1
          have hm2 : p1 = (m : Int) := hm1
          clear hm1
          subst hm2
          obtain ⟨x, hx⟩ : ∃ x, x = (bs.getD m (0, 0)).1 := ⟨_, rfl⟩
          have cx := (H0'.out.2 m (by rw [HL.out]; exact hm)).1
          rw [← hx] at cx
          have HF : Hid (freshAt bs (xs.getD j (0, 0)) = (x == p2)) := by show _ = _; rw [← HP.out, hx]; simp [freshAt]
          have hml : (m : Int) < (bs.length : Int) := by have := HL.out; omega
          clear hx
          cases t : (x == p2) with
          | true =>
            have N : Hid ((xs.take (j + 1)).all (freshAt bs) = true) := by show _ = _; rw [all_take_succ (0, 0) hlt, hA.out, HF.out, t]; rfl
            have t' : (x != p2) = false := by simp [bne, t]
            go_wp2
            go_quiet (fail)
            go_wp2
            go_roundw
            case rel => exact ⟨j + 1, by omega, by go_num, N, below_drewN HB.out _⟩
            case measure => simp [intOf]; omega
          | false =>
            have F : Hid (xs.all (freshAt bs) = false) := all_false (0, 0) hlt (by rw [HF.out]; exact t)
            have t' : (x != p2) = true := by simp [bne, t]
            go_wp2
            go_quiet (fail)
            go_wp2
            go_ret
            exact ⟨ret_bool (by rw [E2.out]; exact F.out.symm), below_drewN (BW.out.trans (HB.out.mono BW.out.size)) _⟩
        · have h1 : j = xs.length := by omega
          have h2 := hA.out
          subst h1
          rw [List.take_length] at h2
          have HA : Hid (xs.all (freshAt bs) = true) := h2
          clear h2 hA hB
          go_wp2_with fail
          go_ret
          exact ⟨ret_bool (by rw [E2.out]; exact HA.out.symm), BW.out.trans (HB.out.mono BW.out.size)⟩
end Go.Proofs.Ytiibonnchmphcaa.Own

namespace Go.Proofs.Ytiibonnchmphcaa.Own
open Go.RowKit
set_option linter.unusedVariables false
set_option linter.unusedSimpArgs false

set_option maxHeartbeats 1000000 in
theorem l1Copy (a : Option Addr) (c : Nat) (bs : List P2) (w : World) (h : Sl w a bs) (h4 : bs.length = 4) :
    Calls Try.prog 87 #[.slice a bs.length c] w fun e w' => ∃ g cap, e = .returned (.slice (some ⟨g, 0, none⟩) bs.length cap) ∧ w.heap.size ≤ g ∧ BoxAt w' g 0 bs ∧ (∀ o, w'.frozen? ⟨g, o, none⟩ = false) ∧ Below w.heap.size w w' := by
  rcases h with h | ⟨b, off, rfl, h⟩
  · subst h; simp at h4
  have A : Hid (BoxAt w b off bs) := h
  have L : Hid (bs.length = 4) := h4
  clear h h4
  obtain ⟨i0, hi, hz0, hz1, hz2⟩ := info_parts infoBoxO
  have I0 : Hid (Try.prog.info? 40 = some i0 ∧ i0.zero = some (.agg #[.int .i64 0, .int .i64 0]) ∧ i0.size = 2 ∧ i0.bytes = 16) := ⟨hi, hz0, hz1, hz2⟩
  clear hi hz0 hz1 hz2
  go_enter Try.func87, Try.ntmps87
  go_wp2_with (at_builtin; refine wpList_append_own _ rfl (.tmp 3) (.tmp 4) 23 rfl w.heap.size 40 i0 (.agg #[.int .i64 0, .int .i64 0]) 2 16 Try.underlying23 I0.out.1 I0.out.2.1 I0.out.2.2.1 I0.out.2.2.2 rfl (by decide) (.slice (some ⟨w.heap.size, 0, none⟩) 0 0) 0 [] rfl (own_empty w w.heap.size rfl) ⟨b, off, none⟩ bs.length c (flat bs) rfl (flat_length bs) (flat_atO (A.out.below ((Below.refl _ _).alloc (Nat.le_refl _) _))) (flat_one bs) (small_max (by rw [L.out]; omega)) (by rw [L.out]; omega) (by rw [size_new]; omega) ?_)
  intro v1 w6 hown hgr _
  obtain ⟨g1, cap1, rfl, hg1, hcap1, hat1, hfr1, hb6⟩ := grown_box rfl (by rw [L.out]; omega) hown hgr
  have F : Hid (w.heap.size ≤ g1 ∧ BoxAt w6 g1 0 bs ∧ (∀ o, w6.frozen? ⟨g1, o, none⟩ = false) ∧ Below w.heap.size w w6) := ⟨hg1, hat1, hfr1, hb6⟩
  clear hown hgr hat1 hfr1 hb6 hg1
  go_wp2
  go_ret
  exact ⟨g1, cap1, rfl, F.out⟩

set_option maxHeartbeats 400000 in
theorem l1MinC (x y : Int) (w : World) : Calls Try.prog 122 #[.int .i64 x, .int .i64 y] w fun e w' => e = .returned (.int .i64 (min x y)) ∧ w' = w := by
  by_cases h : x < y
  · have e : min x y = x := by omega
    rw [e]
    go_enter Try.func122, Try.ntmps122
    go_wp2
    go_ret
    exact ⟨rfl, rfl⟩
  · have e : min x y = y := by omega
    rw [e]
    go_enter Try.func122, Try.ntmps122
    go_wp2
    go_ret
    exact ⟨rfl, rfl⟩
end Go.Proofs.Ytiibonnchmphcaa.Own

namespace Go.Proofs.Ytiibonnchmphcaa.Own
open Go.RowKit
set_option linter.unusedVariables false
set_option linter.unusedSimpArgs false

theorem region_still_tail {P : Program} {id : Nat} {Q : Exit → Act → World → Prop} {a : Act} {w : World} {l : List Oper} (n : Nat) (hm : P.follows .mixedOrders = true) (hB : Region.lexTailB .any l.toArray n = true)
    (h : wpStill P l.toArray w.drew (fun a' => wpList P l.toArray Q (l.drop n) a' w.drew) (l.take n) a) : (Code.region id l.toArray true).wp P Q a w := wp_region_still_tail n hm hB h

set_option maxRecDepth 100000 in
set_option maxHeartbeats 2000000 in
theorem l3Do (g cap : Nat) (bs : List P2) (a1 a2 : Option Addr) (n1 c1 c2 : Nat) (ys : List P2) (v k : Int) (w : World) (hbs : boxOk bs = true) (hat : BoxAt w g 0 bs) (hfr : ∀ o, w.frozen? ⟨g, o, none⟩ = false) (h2 : Sl w a2 ys) (hg : ys = [] ∨ ∀ x, a2 = some x → x.block ≠ g) (hn2 : ys.length ≤ 2 ^ 40) (hy : okAll numOk ys = true) :
    Calls Try.prog 86 #[.slice (some ⟨g, 0, none⟩) 4 cap, .agg #[.slice a1 n1 c1, .slice a2 ys.length c2, .int .i64 v, .int .i64 k]] w fun e w' => e = .returned (.slice (some ⟨g, 0, none⟩) 4 cap) ∧ BoxAt w' g 0 (doPuts bs ys) ∧ (∀ o, w'.frozen? ⟨g, o, none⟩ = false) ∧ Bar g w w' := by
  have HA : Hid (BoxAt w g 0 bs) := hat
  have HF : Hid (∀ o, w.frozen? ⟨g, o, none⟩ = false) := hfr
  have H2 : Hid (Sl w a2 ys) := h2
  have HG : Hid (ys = [] ∨ ∀ x, a2 = some x → x.block ≠ g) := hg
  have HY : Hid (okAll numOk ys = true) := hy
  have HBO : Hid (boxOk bs = true) := hbs
  have HL : Hid (bs.length = 4) := boxOk_len hbs
  clear hat hfr h2 hg hy hbs
  obtain ⟨W, hW⟩ : ∃ W, W = w.alloc (.cells #[.slice a1 n1 c1, .slice a2 ys.length c2, .int .i64 v, .int .i64 k] 30) := ⟨_, rfl⟩
  have BW : Hid (Below w.heap.size w W) := by show Below _ _ _; rw [hW]; exact below_new _ _
  have P0 : Hid (C4 W w.heap.size (.slice a1 n1 c1) (.slice a2 ys.length c2) (.int .i64 v) (.int .i64 k)) := by show C4 _ _ _ _ _ _; rw [hW]; exact C4.new _ _ _ _ _ _
  have HW : Hid (W = _) := hW
  clear hW
  have hgw : g < w.heap.size := HA.out.1
  obtain ⟨_, q0, q1, q2, q3⟩ := P0.out
  go_enter Try.func86, Try.ntmps86
  go_upto_region 1 with fail
  rw [← HW.out]
  go_wp2_with fail
  clear q0 q1 q2 q3
  go_loopw [5, 6] (fun i b wr => ∃ j : Nat, j ≤ ys.length ∧ i = .int .i64 j ∧ BoxAt wr g 0 (doPuts bs (ys.take j)) ∧ (∀ o, wr.frozen? ⟨g, o, none⟩ = false) ∧ Bar g W wr) (fun i _ _ => ys.length - (intOf i).toNat)
  case atStart => exact ⟨0, Nat.zero_le _, rfl, by simpa [doPuts] using HA.out.below BW.out, fun o => by rw [BW.out.frozen (p := ⟨g, o, none⟩) hgw]; exact HF.out o, Bar.refl _ _⟩
  case round =>
    obtain ⟨j, hj, rfl, hA, hF, hB⟩ := hrel
    have HAt : Hid (BoxAt wr g 0 (doPuts bs (ys.take j))) := hA
    have HFr : Hid (∀ o, wr.frozen? ⟨g, o, none⟩ = false) := hF
    have HB : Hid (Bar g W wr) := hB
    have hc : ∀ o, wr.cell? ⟨w.heap.size, o, none⟩ = W.cell? ⟨w.heap.size, o, none⟩ := fun o => World.cell?_of_block (w := W) (a := ⟨w.heap.size, o, none⟩) (hB.block w.heap.size P0.out.1 (by omega))
    have q1 : wr.cell? ⟨w.heap.size, 1, none⟩ = some (.slice a2 ys.length c2) := by rw [hc]; exact P0.out.2.2.1
    clear hA hF hc
    by_cases hlt : j < ys.length
    · rcases H2.out with h | ⟨b1, o1, rfl, h1⟩
      · subst h; simp at hlt
      have hb1 : b1 ≠ g := by
        rcases HG.out with h | h
        · subst h; simp at hlt
        · exact h _ rfl
      have H1' : Hid (BoxAt wr b1 o1 ys) := by
        have h := h1.below BW.out
        have hc : ∀ o, wr.cell? ⟨b1, o, none⟩ = W.cell? ⟨b1, o, none⟩ := fun o => World.cell?_of_block (w := W) (a := ⟨b1, o, none⟩) (hB.block b1 h.1 hb1)
        exact ⟨Nat.lt_of_lt_of_le h.1 hB.size, fun i hi => by rw [hc, hc]; exact h.2 i hi⟩
      clear h1 hB
      obtain ⟨p, hp⟩ : ∃ p, p = ys.getD j (0, 0) := ⟨_, rfl⟩
      obtain ⟨ca, cb⟩ := H1'.out.2 j hlt
      rw [← hp] at ca cb
      have HP : Hid (p = ys.getD j (0, 0)) := hp
      clear hp
      obtain ⟨p1, p2⟩ := p
      obtain ⟨m, hm, hm1⟩ := okAll_box HY.out j hlt
      rw [← HP.out] at hm1
      have hm2 : p1 = (m : Int) := hm1
      clear hm1
      subst hm2
      have OKj := doPuts_ok HBO.out HY.out j hj
      have hver := boxOk_ver OKj m hm
      have hlen : (doPuts bs (ys.take j)).length = 4 := by rw [doPuts_length]; exact HL.out
      have HS : Hid (doPuts bs (ys.take (j + 1)) = (doPuts bs (ys.take j)).set m (min 1000000 (((doPuts bs (ys.take j)).getD m (0, 0)).1 + 1), p2)) := by
        show _ = _
        rw [doPuts_succ _ _ _ hlt, ← HP.out]
        rfl
      generalize doPuts bs (ys.take j) = cur at HAt HS hver hlen
      have HLn : Hid (cur.length = 4) := hlen
      have cx := (HAt.out.2 m (by rw [hlen]; exact hm)).1
      have cy := (HAt.out.2 m (by rw [hlen]; exact hm)).2
      have HN : Hid (BoxAt ((wr.setCell ⟨g, 0 + m * 2, none⟩ (.int .i64 (min 1000000 ((cur.getD m (0, 0)).1 + 1)))).setCell ⟨g, 0 + m * 2 + 1, none⟩ (.int .i64 p2)) g 0 (doPuts bs (ys.take (j + 1)))) := by
        show BoxAt _ _ _ _
        rw [HS.out]; exact HAt.out.setBoth m (by rw [hlen]; exact hm) _ _
      obtain ⟨x, hx⟩ : ∃ x, x = (cur.getD m (0, 0)).1 := ⟨_, rfl⟩
      rw [← hx] at cx hver HN
      have f0 := HFr.out (m * 2)
      have f1 := HFr.out (m * 2 + 1)
      simp only [Nat.zero_add] at cx cy HN
      obtain ⟨y, hy⟩ : ∃ y, y = (cur.getD m (0, 0)).2 := ⟨_, rfl⟩
      rw [← hy] at cy
      clear hx hy hlen
      obtain ⟨hv0, hv1⟩ := hver
      have hne : ¬ g = w.heap.size := by omega
      have hne2 : ¬ g = b1 := fun e => hb1 e.symm
      obtain ⟨z, hz⟩ : ∃ z, z = min 1000000 (x + 1) := ⟨_, rfl⟩
      have HZ : Hid (∀ W, Calls Try.prog 122 #[.int .i64 1000000, .int .i64 (x + 1)] W fun e w' => e = .returned (.int .i64 z) ∧ w' = W) := fun W => by rw [hz]; exact l1MinC _ _ _
      rw [← hz] at HN
      clear hz
      have HBz : Hid (Bar g W ((wr.setCell ⟨g, m * 2, none⟩ (.int .i64 z)).setCell ⟨g, m * 2 + 1, none⟩ (.int .i64 p2))) := HB.out.trans (Bar.ofOnly (((Only.refl g wr).setCell _).setCell _))
      have HFz : Hid (∀ o, ((wr.setCell ⟨g, m * 2, none⟩ (.int .i64 z)).setCell ⟨g, m * 2 + 1, none⟩ (.int .i64 p2)).frozen? ⟨g, o, none⟩ = false) := fun o => by simpa using HFr.out o
      have hw1 : IntKind.i64.wrap (x + 1) = x + 1 := by
        rw [IntKind.wrap_i64]; omega
      have hmi : (m : Int) < 4 := by omega
      have hji : (j : Int) < (ys.length : Int) := by omega
      go_upto_region 5 with fail
      refine region_still_tail 16 (by kernel_rfl) (by kernel_rfl) ?_
      simp only [List.take_succ_cons, List.take_zero, List.drop_succ_cons, List.drop_zero]
      iterate 8 still_step
      still_call (HZ.out _)
      iterate 7 still_step
      refine wpStill_nil ?_
      go_wp2
      go_roundw
      case rel => exact ⟨j + 1, by omega, by go_num, HN.out, HFz.out, HBz.out.os, HBz.out.tape, HBz.out.output, HBz.out.size, HBz.out.block⟩
      case measure => simp [intOf]; omega
    · have hjl : j = ys.length := by omega
      subst hjl
      rw [List.take_length] at HAt
      clear hB
      go_wp2
      go_ret
      refine ⟨rfl, HAt.out, HFr.out, ?_⟩
      exact (Bar.ofBelow BW.out).trans HB.out
end Go.Proofs.Ytiibonnchmphcaa.Own
