/-
  Own texts, bundled: L3Put, RunHeld.
-/
import Derived.Test.YtbecdihfopjlhaaGreatDoorPk13
import Derived.Test.YtbecdihfopjlhaaGreatDoorPk15
import Derived.Deep.AppendLies
import Derived.Test.YtbecdihfopjlhaaGreatDoorPk8
namespace Go.Proofs.YtbecdihfopjlhaaGreatDoor.Own
open Go.RowKit
set_option linter.unusedVariables false
set_option linter.unusedSimpArgs false

theorem OwnP.frozen {t : TypeId} {w : World} {B g n cap : Nat} {xs : List P2} (h : w.ownsRow B t 2 (.slice (some ⟨g, 0, none⟩) n cap) n (flat xs)) (o : Nat) : w.frozen? ⟨g, o, none⟩ = false := by
  obtain ⟨h1, h2⟩ := h
  rcases h2 with ⟨hv, h0⟩ | ⟨g', cap', cur, hv, hg, hh, r⟩
  · cases hv
  · injection hv with e1 e2 e3
    injection e1 with e1
    injection e1 with e1
    subst e1
    exact frozen_heap hh o

/-- What putting leaves. -/
def PutPost (xs ys : List P2) (j : Nat) (n : Int) (B : Nat) (rv pv : Value) (v k : Int) (w : World) (e : Ending) (w' : World) : Prop :=
  ∃ pv', e = .returned (.agg #[rv, pv', .int .i64 v, .int .i64 k]) ∧ OwnP 40 w' B rv xs ∧ OwnP 54 w' B pv' (putP ys j n) ∧
    (rv.ownBlock = none ∨ rv.ownBlock ≠ pv'.ownBlock) ∧ w.grownBy w' pv.ownBlock ∧ (∀ g, pv'.ownBlock = some g → pv.ownBlock = some g ∨ w.heap.size ≤ g)

theorem infoPut : (Tryz.prog.info? 54).map (fun i => (i.zero, i.size, i.bytes)) = some (some (.agg #[.int .i64 0, .int .i64 0]), 2, 16) := by kernel_rfl

set_option maxRecDepth 100000 in
set_option maxHeartbeats 4000000 in
theorem l3Put (j : Nat) (n : Int) (rv pv : Value) (xs ys : List P2) (v k : Int) (B : Nat) (w : World)
    (hr : OwnP 40 w B rv xs) (hp : OwnP 54 w B pv ys) (hd : rv.ownBlock = none ∨ rv.ownBlock ≠ pv.ownBlock) (hB : B ≤ w.heap.size) (ly : ys.length ≤ 1000) :
    Calls Tryz.prog 143 #[.agg #[rv, pv, .int .i64 v, .int .i64 k], .int .i64 j, .int .i64 n] w fun e w' => PutPost xs ys j n B rv pv v k w e w' := by
  obtain ⟨ar, cr, hrv, slr, hcr, hmr, hbr⟩ := hr.open
  obtain ⟨ap, cp, hpv, slp, hcp, hmp, hbp⟩ := hp.open
  have HR : Hid (OwnP 40 w B rv xs) := hr
  have HP : Hid (OwnP 54 w B pv ys) := hp
  have HD : Hid (rv.ownBlock = none ∨ rv.ownBlock ≠ pv.ownBlock) := hd
  have HRV : Hid (rv = .slice ar xs.length cr) := hrv
  have HPV : Hid (pv = .slice ap ys.length cp) := hpv
  have SP : Hid (Sl w ap ys) := slp
  have HBP : Hid (∀ x, ap = some x → pv.ownBlock = some x.block ∧ x.off = 0 ∧ x.spot = none) := hbp
  clear hr hp hd slr slp hbr hbp hcr hcp hmr hmp
  obtain ⟨W, hW⟩ : ∃ W, W = (w.alloc (.cells #[.slice ar xs.length cr, .slice ap ys.length cp, .int .i64 v, .int .i64 k] 37)).alloc (.cells #[.slice none 0 0, .slice none 0 0, .int .i64 0, .int .i64 0] 37) := ⟨_, rfl⟩
  have BW : Hid (Below w.heap.size w W) := by show Below _ _ _; rw [hW]; exact ((Below.refl _ _).alloc (Nat.le_refl _) _).alloc (by simp) _
  have HSW : Hid (W.heap.size = w.heap.size + 2) := by show _ = _; rw [hW]; simp
  have hNW : w.heap.size + 1 < W.heap.size := by have := HSW.out; omega
  have hBW : B ≤ W.heap.size := by omega
  have g0 : Hid (W.heap[w.heap.size]? = some (.cells #[.slice ar xs.length cr, .slice ap ys.length cp, .int .i64 v, .int .i64 k] 37 (0, 0))) := by show _ = _; rw [hW]; exact heap_new1 _ _ _
  have g1 : Hid (W.heap[w.heap.size + 1]? = some (.cells #[.slice none 0 0, .slice none 0 0, .int .i64 0, .int .i64 0] 37 (0, 0))) := by show _ = _; rw [hW]; exact heap_new2 _ _ _
  have HW : Hid (W = _) := hW
  clear hW
  have q0 : W.cell? ⟨w.heap.size, 0, none⟩ = some (.slice ar xs.length cr) := by rw [cell_heap g0.out]; rfl
  have q1 : W.cell? ⟨w.heap.size, 1, none⟩ = some (.slice ap ys.length cp) := by rw [cell_heap g0.out]; rfl
  have q2 : W.cell? ⟨w.heap.size, 2, none⟩ = some (.int .i64 v) := by rw [cell_heap g0.out]; rfl
  have q3 : W.cell? ⟨w.heap.size, 3, none⟩ = some (.int .i64 k) := by rw [cell_heap g0.out]; rfl
  have z0 : W.cell? ⟨w.heap.size + 1, 0, none⟩ = some (.slice none 0 0) := by rw [cell_heap g1.out]; rfl
  have z1 : W.cell? ⟨w.heap.size + 1, 1, none⟩ = some (.slice none 0 0) := by rw [cell_heap g1.out]; rfl
  have z2 : W.cell? ⟨w.heap.size + 1, 2, none⟩ = some (.int .i64 0) := by rw [cell_heap g1.out]; rfl
  have z3 : W.cell? ⟨w.heap.size + 1, 3, none⟩ = some (.int .i64 0) := by rw [cell_heap g1.out]; rfl
  have fz : ∀ o, W.frozen? ⟨w.heap.size + 1, o, none⟩ = false := fun o => frozen_heap g1.out o
  have lR : Hid (∀ g, rv.ownBlock = some g → g < w.heap.size) := fun g hg => (World.ownsRow.lt HR.out g hg).2
  have lP : Hid (∀ g, pv.ownBlock = some g → g < w.heap.size) := fun g hg => (World.ownsRow.lt HP.out g hg).2
  rw [HRV.out, HPV.out]
  go_enter Tryz.func143, Tryz.ntmps143
  go_wp2_with fail
  rw [← HW.out]
  refine (l3At ap cp ys.length ys j W (SP.out.below BW.out) rfl (by omega)).mono ?_
  rintro e w1 ⟨rfl, hw⟩
  rw [hw]
  clear hw
  cases hy : hasBox ys j with
  | true =>
    obtain ⟨pe, pl⟩ := place_idx ys j hy
    rw [pe]
    have EP : Hid (putP ys j n = ys.set (idxBox ys j) ((ys.getD (idxBox ys j) (0, 0)).1, n)) := by show _ = _; simp [putP, hy]
    generalize idxBox ys j = m at pl EP
    clear pe hy
    rcases SP.out with h0 | ⟨b, off, rfl, hat0⟩
    · rw [h0] at pl; simp at pl
    obtain ⟨ob, h0, _⟩ := HBP.out _ rfl
    dsimp only at ob h0
    subst h0
    have hbw : b < w.heap.size := hat0.1
    have HPW : Hid (OwnP 54 W B (.slice (some ⟨b, 0, none⟩) ys.length cp) ys) := by
      show OwnP _ _ _ _ _
      rw [← HPV.out]; exact HP.out.below BW.out
    have cy := ((hat0.below BW.out).2 m pl).2
    rw [Nat.zero_add] at cy
    have fb : ∀ o, W.frozen? ⟨b, o, none⟩ = false := fun o => OwnP.frozen HPW.out o
    clear hat0
    have dm : decide ((0 : Int) ≤ (m : Int)) = true := by simp
    have hml : (m : Int) < ((ys.length : Nat) : Int) := by omega
    have bn : ¬ b = w.heap.size := by omega
    have bn' : ¬ w.heap.size = b := by omega
    have bm : ¬ b = w.heap.size + 1 := by omega
    have bm' : ¬ w.heap.size + 1 = b := by omega
    have FIN : Hid (∀ W', (W.setCell ⟨b, m * 2 + 1, none⟩ (.int .i64 n)).grownBy W' (some (w.heap.size + 1)) → OwnP 40 W' B rv xs ∧ OwnP 54 W' B (.slice (some ⟨b, 0, none⟩) ys.length cp) (putP ys j n) ∧ (rv.ownBlock = none ∨ rv.ownBlock ≠ (Value.slice (some ⟨b, 0, none⟩) ys.length cp).ownBlock) ∧ w.grownBy W' pv.ownBlock ∧ (∀ g, (Value.slice (some ⟨b, 0, none⟩) ys.length cp).ownBlock = some g → pv.ownBlock = some g ∨ w.heap.size ≤ g)) := by
      intro W' hk
      have s1 : W.grownBy (W.setCell ⟨b, m * 2 + 1, none⟩ (.int .i64 n)) (some b) := grSet (grR _ _) _
      refine ⟨?_, ?_, ?_, ?_, ?_⟩
      · refine ((HR.out.below BW.out).keep s1 ?_).keep hk ?_
        · rw [← ob]; exact HD.out
        · cases h : rv.ownBlock with
          | none => exact .inl rfl
          | some q => refine .inr fun e => ?_; injection e with e; have := lR.out _ h; omega
      · have o := (HPW.out.set m pl n)
        rw [EP.out]
        have o2 : OwnP 54 W' B (.slice (some ⟨b, 0, none⟩) ys.length cp) (ys.set m ((ys.getD m (0, 0)).1, n)) := o.keep hk (.inr fun e => by injection e with e; exact bm e)
        exact o2
      · show _ ∨ rv.ownBlock ≠ some b
        rw [← ob]; exact HD.out
      · rw [ob]; exact grNew ((grBelow BW.out).trans s1) hk (by omega)
      · intro g e; exact .inl (by rw [ob]; exact e)
    have FIN' : Hid (∀ W', (W.setCell ⟨b, m * 2 + 1, none⟩ (.int .i64 n)).grownBy W' (some (w.heap.size + 1)) → OwnP 40 W' B rv xs ∧ OwnP 54 W' B pv (putP ys j n) ∧ (rv.ownBlock = none ∨ rv.ownBlock ≠ pv.ownBlock) ∧ w.grownBy W' pv.ownBlock ∧ (∀ g, pv.ownBlock = some g → pv.ownBlock = some g ∨ w.heap.size ≤ g)) := fun W' hk => by
      have F := FIN.out W' hk
      rw [← HPV.out] at F
      exact F
    go_wp2
    refine bodyPost_ret (v := .agg #[.slice ar xs.length cr, .slice (some ⟨b, 0, none⟩) ys.length cp, .int .i64 v, .int .i64 k]) (by simp [results, Tryz.results143, go_sem, z0, z1, z2, z3, bm, bm']) rfl ⟨_, rfl, ?_⟩
    rw [← HRV.out, ← HPV.out]
    refine FIN'.out _ ?_
    repeat (first | exact grR _ _ | apply grSet | apply grDrew | apply grDrewN)
  | false =>
    rw [place_no ys j hy]
    have EP : Hid (putP ys j n = ys ++ [((j : Int), n)]) := by show _ = _; simp [putP, hy]
    clear hy
    obtain ⟨i0, hi0, hz0, hz1, hz2⟩ := info_parts infoPut
    have I0 : Hid (Tryz.prog.info? 54 = some i0 ∧ i0.zero = some (.agg #[.int .i64 0, .int .i64 0]) ∧ i0.size = 2 ∧ i0.bytes = 16) := ⟨hi0, hz0, hz1, hz2⟩
    clear hi0 hz0 hz1 hz2
    have HPW : Hid (W.ownsRow B 54 2 (.slice ap ys.length cp) ys.length (flat ys)) := by
      show W.ownsRow _ _ _ _ _ _
      rw [← HPV.out]; exact HP.out.below BW.out
    have OB : Hid (pv.ownBlock = (Value.slice ap ys.length cp).ownBlock) := by show _ = _; rw [HPV.out]
    have hN : Hid (ys.length + 1 ≤ maxLen) := by show _ ≤ _; unfold maxLen; omega
    have hBy : Hid ((ys.length + 1) * 16 ≤ 140737488355328) := by show _ ≤ _; omega
    have hBs : Hid (B ≤ (W.alloc (.cells #[.int .i64 j, .int .i64 n] 54)).heap.size) := by show _ ≤ _; rw [size_new]; omega
    go_wp2_with (at_builtin; refine wpList_append_lies _ rfl (.tmp 22) (.tmp 26) 35 rfl B 54 i0 (.agg #[.int .i64 0, .int .i64 0]) 2 16 Tryz.underlying35 I0.out.1 I0.out.2.1 I0.out.2.2.1 I0.out.2.2.2 rfl (by decide) (.slice ap ys.length cp) ys.length (flat ys) rfl (HPW.out.alloc _) ⟨W.heap.size, 0, none⟩ 1 1 [.int .i64 j, .int .i64 n] rfl rfl (World.news_of_block (cs := #[.int .i64 j, .int .i64 n]) (t := 54) (fr := (0, 0)) (heap_alloc_new W _)) (by simp [Value.oneCell']) (by decide) hN.out hBy.out hBs.out (W.heap.size + 1) (size_new _ _) ?_)
    intro gg cap w1 hown1 hgrow hat hlt
    have GW : W.grownBy w1 (Value.slice ap ys.length cp).ownBlock := World.grownBy.trans (grAlloc (grR W _) _) hgrow
    have nN : (Value.slice ap ys.length cp).ownBlock ≠ some w.heap.size ∧ (Value.slice ap ys.length cp).ownBlock ≠ some (w.heap.size + 1) := by
      rw [← OB.out]
      exact ⟨fun e => by have := lP.out _ e; omega, fun e => by have := lP.out _ e; omega⟩
    have G0 : w1.heap[w.heap.size]? = some (.cells #[.slice ar xs.length cr, .slice ap ys.length cp, .int .i64 v, .int .i64 k] 37 (0, 0)) := by rw [GW.block _ (by omega) (Ne.symm nN.1)]; exact g0.out
    have G1 : w1.heap[w.heap.size + 1]? = some (.cells #[.slice none 0 0, .slice none 0 0, .int .i64 0, .int .i64 0] 37 (0, 0)) := by rw [GW.block _ (by omega) (Ne.symm nN.2)]; exact g1.out
    have c0 : w1.cell? ⟨w.heap.size, 0, none⟩ = some (.slice ar xs.length cr) := (cell_heap G0 0).trans rfl
    have c1 : w1.cell? ⟨w.heap.size, 1, none⟩ = some (.slice ap ys.length cp) := (cell_heap G0 1).trans rfl
    have c2 : w1.cell? ⟨w.heap.size, 2, none⟩ = some (.int .i64 v) := (cell_heap G0 2).trans rfl
    have c3 : w1.cell? ⟨w.heap.size, 3, none⟩ = some (.int .i64 k) := (cell_heap G0 3).trans rfl
    have y0 : w1.cell? ⟨w.heap.size + 1, 0, none⟩ = some (.slice none 0 0) := (cell_heap G1 0).trans rfl
    have y1 : w1.cell? ⟨w.heap.size + 1, 1, none⟩ = some (.slice none 0 0) := (cell_heap G1 1).trans rfl
    have y2 : w1.cell? ⟨w.heap.size + 1, 2, none⟩ = some (.int .i64 0) := (cell_heap G1 2).trans rfl
    have y3 : w1.cell? ⟨w.heap.size + 1, 3, none⟩ = some (.int .i64 0) := (cell_heap G1 3).trans rfl
    have fx : ∀ o, w1.frozen? ⟨w.heap.size, o, none⟩ = false := fun o => frozen_heap G0 o
    have fy : ∀ o, w1.frozen? ⟨w.heap.size + 1, o, none⟩ = false := fun o => frozen_heap G1 o
    have FIN : Hid (∀ W', (w1.setCell ⟨w.heap.size, 1, none⟩ (.slice (some ⟨gg, 0, none⟩) (ys.length + 1) cap)).grownBy W' (some (w.heap.size + 1)) → OwnP 40 W' B rv xs ∧ OwnP 54 W' B (.slice (some ⟨gg, 0, none⟩) (ys.length + 1) cap) (putP ys j n) ∧ (rv.ownBlock = none ∨ rv.ownBlock ≠ (Value.slice (some ⟨gg, 0, none⟩) (ys.length + 1) cap).ownBlock) ∧ w.grownBy W' pv.ownBlock ∧ (∀ g, (Value.slice (some ⟨gg, 0, none⟩) (ys.length + 1) cap).ownBlock = some g → pv.ownBlock = some g ∨ w.heap.size ≤ g)) := by
      intro W' hk
      have s1 : w1.grownBy (w1.setCell ⟨w.heap.size, 1, none⟩ (.slice (some ⟨gg, 0, none⟩) (ys.length + 1) cap)) (some w.heap.size) := grSet (grR _ _) _
      have hgg : gg ≠ w.heap.size ∧ gg ≠ w.heap.size + 1 ∧ (∀ q, rv.ownBlock = some q → q ≠ gg) := by
        rcases hat with h | h
        · rw [← OB.out] at h
          have := lP.out _ h
          refine ⟨by omega, by omega, fun q hq e => ?_⟩
          rcases HD.out with h' | h'
          · rw [hq] at h'; cases h'
          · exact h' (by rw [h, hq, e])
        · refine ⟨by omega, by omega, fun q hq e => ?_⟩
          have := lR.out _ hq
          omega
      refine ⟨?_, ?_, ?_, ?_, ?_⟩
      · refine (((HR.out.below BW.out).keep GW ?_).keep s1 ?_).keep hk ?_
        · rw [← OB.out]; exact HD.out
        · cases h : rv.ownBlock with
          | none => exact .inl rfl
          | some q => refine .inr fun e => ?_; injection e with e; have := lR.out _ h; omega
        · cases h : rv.ownBlock with
          | none => exact .inl rfl
          | some q => refine .inr fun e => ?_; injection e with e; have := lR.out _ h; omega
      · have o : OwnP 54 w1 B (.slice (some ⟨gg, 0, none⟩) (ys.length + 1) cap) (ys ++ [((j : Int), n)]) := by
          unfold OwnP
          rw [List.length_append, flat_snocP]
          exact hown1
        rw [EP.out]
        refine (o.keep s1 (.inr ?_)).keep hk (.inr ?_)
        · intro e; injection e with e; exact hgg.1 e
        · intro e; injection e with e; exact hgg.2.1 e
      · refine .inr fun e => ?_
        exact hgg.2.2 gg e rfl
      · rw [OB.out]
        exact grNew (grNew ((grBelow BW.out).trans GW) s1 (Nat.le_refl _)) hk (by omega)
      · intro g e
        have e' : gg = g := Option.some.inj e
        subst e'
        rcases hat with h | h
        · exact .inl (by rw [OB.out]; exact h)
        · exact .inr (by omega)
    clear hown1 hgrow hat hlt GW nN G0 G1
    go_wp2
    refine bodyPost_ret (v := .agg #[.slice ar xs.length cr, .slice (some ⟨gg, 0, none⟩) (ys.length + 1) cap, .int .i64 v, .int .i64 k]) (by simp [results, Tryz.results143, go_sem, y0, y1, y2, y3]) rfl ⟨_, rfl, ?_⟩
    rw [← HRV.out, ← HPV.out]
    refine FIN.out _ ?_
    repeat (first | exact grR _ _ | apply grSet | apply grDrew | apply grDrewN)
end Go.Proofs.YtbecdihfopjlhaaGreatDoor.Own

namespace Go.Proofs.YtbecdihfopjlhaaGreatDoor.Own
open Go.RowKit
set_option linter.unusedVariables false

theorem Turned.set {L : List Nat} {a b : World} {p : Addr} (h : Turned L a b) (hp : p.block ∈ L) (v : Value) : Turned L a (b.setCell p v) :=
  ⟨h.os, h.tape, h.output, by simpa [World.setCell] using h.size, fun i hi hn => by rw [Below.heap_setCell _ _ _ _ (fun e => hn (by rw [e]; exact hp))]; exact h.block i hi hn⟩
theorem Turned.alloc {L : List Nat} {a b : World} (h : Turned L a b) (o : Obj) : Turned L a (b.alloc o) := h.trans (Turned.ofBelow (below_new _ _))
theorem Turned.drew {L : List Nat} {a b : World} (h : Turned L a b) : Turned L a b.drew := h.trans ⟨rfl, rfl, rfl, Nat.le_refl _, fun _ _ _ => rfl⟩
theorem Turned.drewN {L : List Nat} {a b : World} (h : Turned L a b) (n : Nat) : Turned L a (b.drewN n) := h.trans ⟨rfl, rfl, rfl, Nat.le_refl _, fun _ _ _ => rfl⟩
theorem Turned.ofGrown {L : List Nat} {w w' : World} {row : Option Nat} (h : w.grownBy w' row) (hr : ∀ g, row = some g → g ∈ L) : Turned L w w' :=
  ⟨h.os, h.tape, h.output, h.size, fun k hk hn => h.block k hk (fun e => hn (hr k e.symm))⟩
theorem OwnP.turned {L : List Nat} {t : TypeId} {w w' : World} {B : Nat} {v : Value} {xs : List P2} (h : OwnP t w B v xs) (ht : Turned L w w') (hv : ∀ g, v.ownBlock = some g → g ∉ L) : OwnP t w' B v xs := by
  obtain ⟨h1, h2⟩ := h
  refine ⟨h1, ?_⟩
  rcases h2 with h2 | ⟨g, cap, cur, e, hg, hh, r⟩
  · exact .inl h2
  · exact .inr ⟨g, cap, cur, e, hg, by rw [ht.block g (Array.getElem?_eq_some_iff.1 hh).1 (hv g (by rw [e]; rfl))]; exact hh, r⟩
theorem IntAt.turned {L : List Nat} {w w' : World} {b off : Nat} {xs : List Int} (h : IntAt w b off xs) (ht : Turned L w w') (hb : b ∉ L) : IntAt w' b off xs :=
  h.congr (Nat.lt_of_lt_of_le h.1 ht.size) (fun o => World.cell?_of_block (w := w) (a := ⟨b, o, none⟩) (ht.block b h.1 hb))
theorem IntAt.set0 {w : World} {b : Nat} {xs : List Int} (h : IntAt w b 0 xs) (i : Nat) (hi : i < xs.length) (n : Int) : IntAt (w.setCell ⟨b, i, none⟩ (.int .i64 n)) b 0 (xs.set i n) := by
  refine ⟨by simpa [World.setCell] using h.1, fun j hj => ?_⟩
  rw [List.length_set] at hj
  have hx := h.2 j hj
  rw [Nat.zero_add] at hx ⊢
  by_cases e : i = j
  · subst e
    rw [setCell_cell_same _ _ _ _ _ hx]
    simp [List.getD, hi]
  · rw [setCell_cell_other _ _ _ _ _ e, hx]
    simp [List.getD, e]

/-- Of the blocks below B none but rg has turned. -/
structure Kp (B rg : Nat) (w w' : World) : Prop where
  os : w'.os = w.os
  tape : w'.tape = w.tape
  output : w'.output = w.output
  size : w.heap.size ≤ w'.heap.size
  block : ∀ k, k < B → k ≠ rg → w'.heap[k]? = w.heap[k]?
theorem Kp.refl (B rg : Nat) (w : World) : Kp B rg w w := ⟨rfl, rfl, rfl, Nat.le_refl _, fun _ _ _ => rfl⟩
theorem Kp.trans {B rg : Nat} {a b c : World} (h : Kp B rg a b) (k : Kp B rg b c) : Kp B rg a c :=
  ⟨k.os.trans h.os, k.tape.trans h.tape, k.output.trans h.output, Nat.le_trans h.size k.size, fun i hi hn => (k.block i hi hn).trans (h.block i hi hn)⟩
theorem Turned.kp {L : List Nat} {w w' : World} {B rg : Nat} (h : Turned L w w') (hB : B ≤ w.heap.size) (hL : ∀ x, x ∈ L → B ≤ x ∨ x = rg) : Kp B rg w w' :=
  ⟨h.os, h.tape, h.output, h.size, fun k hk hn => h.block k (by omega) (fun e => by rcases hL k e with h | h <;> omega)⟩

/-- A run under way: its registers in block rg, what it looked into and what it would put in rows of its own from B on. -/
structure Held (B rg : Nat) (w : World) (rv pv : Value) (s : RunSt) : Prop where
  regs : IntAt w rg 0 s.regs
  four : s.regs.length = 4
  free : ∀ o, w.frozen? ⟨rg, o, none⟩ = false
  reads : OwnP 40 w B rv s.reads
  puts : OwnP 54 w B pv s.puts
  apart : rv.ownBlock = none ∨ rv.ownBlock ≠ pv.ownBlock

theorem Held.turned {L : List Nat} {B rg : Nat} {w w' : World} {rv pv : Value} {s : RunSt} (h : Held B rg w rv pv s) (ht : Turned L w w') (hg : rg ∉ L) (hr : ∀ g, rv.ownBlock = some g → g ∉ L) (hp : ∀ g, pv.ownBlock = some g → g ∉ L) : Held B rg w' rv pv s :=
  ⟨h.regs.turned ht hg, h.four, fun o => by rw [World.frozen?_of_block (w := w) (a := ⟨rg, o, none⟩) (ht.block rg h.regs.1 hg)]; exact h.free o, h.reads.turned ht hr, h.puts.turned ht hp, h.apart⟩
theorem Held.setR {B rg : Nat} {w : World} {rv pv : Value} {s : RunSt} (h : Held B rg w rv pv s) (hg : rg < B) (a : Nat) (ha : a < 4) (n : Int) : Held B rg (w.setCell ⟨rg, a, none⟩ (.int .i64 n)) rv pv (setReg s a n) := by
  have e : Turned [rg] w (w.setCell ⟨rg, a, none⟩ (.int .i64 n)) := (Turned.refl _ _).set (by simp) _
  refine ⟨h.regs.set0 a (by rw [h.four]; exact ha) n, by simp [setReg, h.four], fun o => by simpa using h.free o, h.reads.turned e (fun g e => ?_), h.puts.turned e (fun g e => ?_), h.apart⟩
  · have := (World.ownsRow.lt h.reads g e).1; simp; omega
  · have := (World.ownsRow.lt h.puts g e).1; simp; omega
theorem Held.code {B rg : Nat} {w : World} {rv pv : Value} {s : RunSt} (h : Held B rg w rv pv s) (c : Int) : Held B rg w rv pv { s with code := c } := ⟨h.regs, h.four, h.free, h.reads, h.puts, h.apart⟩
end Go.Proofs.YtbecdihfopjlhaaGreatDoor.Own
