/-
  Own text, by program (gen_speccast.py): what spec.l6Cast does.
-/
import Derived.Test.YtbbbfnfpmaogoaaQCastMath
import Derived.Test.YtbbbfnfpmaogoaaPk5
import Derived.Test.YtbbbfnfpmaogoaaPk9
namespace Go.Proofs.Ytbbbfnfpmaogoaa.Own
open Go.RowKit
set_option linter.unusedVariables false
set_option linter.unusedSimpArgs false

/-- How long the list is that lies in a block's second cell. -/
def lenAt (w : World) (b : Nat) : Nat := match w.cell? ⟨b, 1, none⟩ with
  | some (.slice _ n _) => n
  | _ => 0
theorem lenAt_blk {w : World} {b : Nat} {x : Value} {a : Option Addr} {n c : Nat} {t : TypeId} (h : Blk w b #[x, .slice a n c] t) : lenAt w b = n := by
  unfold lenAt
  rw [h.cells2.2]
/-- Of the blocks that were there none has turned but the list's and one more. -/
structure But2 (ro : Option Nat) (C : Nat) (w w' : World) : Prop where
  os : w'.os = w.os
  tape : w'.tape = w.tape
  output : w'.output = w.output
  size : w.heap.size ≤ w'.heap.size
  block : ∀ b, b < w.heap.size → ro ≠ some b → b ≠ C → w'.heap[b]? = w.heap[b]?
theorem But2.refl (ro : Option Nat) (C : Nat) (w : World) : But2 ro C w w := ⟨rfl, rfl, rfl, Nat.le_refl _, fun _ _ _ _ => rfl⟩

set_option maxRecDepth 100000 in
set_option maxHeartbeats 1500000 in
theorem l6Cast (m : Int) (la : Option Addr) (lc : Nat) (us : List VM) (bal slot : Int) (n : Bool) (p q : Int) (a1 a2 : Option Addr) (c1 c2 : Nat) (xs ys : List P2) (v k : Int) (B : Nat) (w : World)
    (h : OwnL w B (.slice la us.length lc) us) (hB : B ≤ w.heap.size) (hu : us.length ≤ 2 ^ 29) (h1 : Sl w a1 xs) (h2 : Sl w a2 ys) (n1 : xs.length ≤ 2 ^ 40) (n2 : ys.length ≤ 2 ^ 40) (hc1 : xs.length ≤ c1) (hc2 : ys.length ≤ c2)
    (ap1 : ∀ x, a1 = some x → xs ≠ [] → (Value.slice la us.length lc).ownBlock ≠ some x.block) (ap2 : ∀ x, a2 = some x → ys ≠ [] → (Value.slice la us.length lc).ownBlock ≠ some x.block) :
    Calls Try.prog 76 #[.agg #[.int .i64 m, .slice la us.length lc], .int .i64 bal, .int .i64 slot, .agg #[.bool n, .int .i64 p, .int .i64 q, .slice a1 xs.length c1, .slice a2 ys.length c2, .int .i64 v, .int .i64 k]] w fun e w' => CastPost m bal slot ⟨n, p, q, xs, ys, v, k⟩ (bodies us) B w e w' := by
  obtain ⟨i0, hi, hz0, hz1, hz2⟩ := info_parts infoVoteC
  have I0 : Hid (Try.prog.info? 86 = some i0 ∧ i0.zero = some (.agg #[.int .i64 0, .bool false, .int .i64 0, .int .i64 0, .slice none 0 0, .slice none 0 0, .int .i64 0, .int .i64 0]) ∧ i0.size = 8 ∧ i0.bytes = 96) := ⟨hi, hz0, hz1, hz2⟩
  have OL : Hid (OwnL w B (.slice la us.length lc) us) := h
  have HB : Hid (B ≤ w.heap.size) := hB
  have H1 : Hid (Sl w a1 xs) := h1
  have H2 : Hid (Sl w a2 ys) := h2
  have AP : Hid ((∀ x, a1 = some x → xs ≠ [] → (Value.slice la us.length lc).ownBlock ≠ some x.block) ∧ (∀ x, a2 = some x → ys ≠ [] → (Value.slice la us.length lc).ownBlock ≠ some x.block)) := ⟨ap1, ap2⟩
  obtain ⟨W, hW⟩ : ∃ W, W = ((w.alloc (.cells #[.int .i64 m, .slice la us.length lc] 24)).alloc (.cells #[.bool n, .int .i64 p, .int .i64 q, .slice a1 xs.length c1, .slice a2 ys.length c2, .int .i64 v, .int .i64 k] 34)).alloc (.cells #[.int .i64 0, .slice none 0 0] 24) := ⟨_, rfl⟩
  have BW : Hid (Below w.heap.size w W) := by show Below _ _ _; rw [hW]; exact (((Below.refl _ _).alloc (Nat.le_refl _) _).alloc (by simp) _).alloc (by rw [size_new, size_new]; omega) _
  have PW : Hid (Blk W w.heap.size #[.int .i64 m, .slice la us.length lc] 24) := by show Blk _ _ _ _; rw [hW]; exact ((Blk.new _ _ _).alloc _).alloc _
  have EW : Hid (Blk W (w.heap.size + 1) #[.bool n, .int .i64 p, .int .i64 q, .slice a1 xs.length c1, .slice a2 ys.length c2, .int .i64 v, .int .i64 k] 34) := by show Blk _ _ _ _; rw [hW]; exact (Blk.new2 _ _ _ _).alloc _
  have ZW : Hid (Blk W (w.heap.size + 2) #[.int .i64 0, .slice none 0 0] 24) := by show Blk _ _ _ _; rw [hW]; exact Blk.new3 _ _ _ _ _
  have SW : Hid (W.heap.size = w.heap.size + 3) := by show _ = _; rw [hW]; simp
  have HW : Hid (W = _) := hW
  have RE : Hid (entOk n p q xs ys v k = rightE ⟨n, p, q, xs, ys, v, k⟩) := rfl
  have CE : Hid (∀ V, Below W.heap.size W V → Calls Try.prog 96 #[.agg #[.bool n, .int .i64 p, .int .i64 q, .slice a1 xs.length c1, .slice a2 ys.length c2, .int .i64 v, .int .i64 k]] V fun e w' => e = .returned (.bool (entOk n p q xs ys v k)) ∧ Below V.heap.size V w') := fun V hV => specCertEntry n p q a1 a2 c1 c2 xs ys v k V ((h1.below BW.out).below hV) ((h2.below BW.out).below hV) n1 n2 hc1 hc2
  obtain ⟨PB, hPB⟩ : ∃ PB, PB = ((decide (0 ≤ slot) && decide (slot < 40)) && entOk n p q xs ys v k) := ⟨_, rfl⟩
  have HPB : Hid (PB = ((decide (0 ≤ slot) && decide (slot < 40)) && entOk n p q xs ys v k)) := hPB
  have CO : Hid (castOk m bal slot ⟨n, p, q, xs, ys, v, k⟩ = (promOk m bal && PB)) := by show _ = _; rw [hPB]; rfl
  generalize entOk n p q xs ys v k = RR at CE HPB RE
  have NOT : Hid (∀ w', Below w.heap.size w w' → castOk m bal slot ⟨n, p, q, xs, ys, v, k⟩ = false → CastPost m bal slot ⟨n, p, q, xs, ys, v, k⟩ (bodies us) B w (.returned (.tuple #[.agg #[.int .i64 m, .slice la us.length lc], .bool false])) w') := fun w' hb hc => by
    refine ⟨_, us, by rw [hc]; rfl, OL.out.keep hb, by rw [hc]; rfl, hb.mono HB.out⟩
  clear hPB hW h h1 h2 ap1 ap2 hi hz0 hz1 hz2 hc1 hc2 hB
  go_enter Try.func76, Try.ntmps76
  go_upto_region 1 with fail
  rw [← HW.out]
  go_cut [22] from 12 to 22 (fun t wx => t = .bool (!PB) ∧ Below W.heap.size W wx)
  case first =>
    obtain ⟨b0, b1, b2, b3, b4, b5, b6⟩ := EW.out.cells7
    by_cases hs0 : slot < 0
    · have d0 : decide (slot < 0) = true := decide_eq_true hs0
      have pf : PB = false := by rw [HPB.out]; simp [show ¬ 0 ≤ slot by omega]
      go_wp2_with fail
      go_meet
      exact ⟨by rw [pf]; rfl, Below.refl _ _⟩
    · have d0 : decide (slot < 0) = false := decide_eq_false hs0
      by_cases hs1 : 40 ≤ slot
      · have d1 : decide (40 ≤ slot) = true := decide_eq_true hs1
        have pf : PB = false := by rw [HPB.out]; simp [show ¬ slot < 40 by omega]
        go_wp2_with fail
        go_meet
        exact ⟨by rw [pf]; rfl, Below.refl _ _⟩
      · have d1 : decide (40 ≤ slot) = false := decide_eq_false hs1
        have pf : PB = RR := by rw [HPB.out]; simp [show 0 ≤ slot by omega, show slot < 40 by omega]
        go_wp2_with fail
        refine Calls.mono (CE.out W (Below.refl _ _)) ?_
        rintro e w1 ⟨rfl, hb1⟩
        have B1 : Hid (Below W.heap.size W w1) := hb1
        clear hb1
        go_wp2_with fail
        go_meet
        exact ⟨by rw [pf], B1.out⟩
  case rest =>
    obtain ⟨w1, h1e⟩ : ∃ x, x = wc := ⟨_, rfl⟩
    subst h1e
    obtain ⟨rfl, hb1⟩ := hcut
    have B1 : Hid (Below W.heap.size W w1) := hb1
    have P1 : Hid (Blk w1 w.heap.size #[.int .i64 m, .slice la us.length lc] 24) := PW.out.keep hb1
    have Z1 : Hid (Blk w1 (w.heap.size + 2) #[.int .i64 0, .slice none 0 0] 24) := ZW.out.keep hb1
    have K1 : Hid (Below w.heap.size w w1) := BW.out.trans (hb1.mono BW.out.size)
    clear hb1
    obtain ⟨p0, p1⟩ := P1.out.cells2
    cases PB with
    | false =>
      obtain ⟨z0, z1⟩ := Z1.out.cells2
      have fz := Z1.out.frozen
      have CF : Hid (castOk m bal slot ⟨n, p, q, xs, ys, v, k⟩ = false) := by show _ = _; rw [CO.out, Bool.and_false]
      go_wp2_with fail
      have zb := (((Z1.out.set 0 (.int .i64 m)).set 1 (.slice la us.length lc)).eq (C' := #[.int .i64 m, .slice la us.length lc]) (by simp)).cells2
      obtain ⟨y0, y1⟩ := zb
      refine bodyPost_ret (v := .tuple #[.agg #[.int .i64 m, .slice la us.length lc], .bool false]) (by simp [results, Try.results76, go_sem, y0, y1]) rfl ?_
      exact NOT.out _ ((K1.out.setCell (by show w.heap.size ≤ w.heap.size + 2; omega) _).setCell (by show w.heap.size ≤ w.heap.size + 2; omega) _) CF.out
    | true =>
      have SR : Hid ((0 ≤ slot ∧ slot < 40) ∧ RR = true) := by
        have := HPB.out
        show _ ∧ _
        revert this
        cases RR <;> simp
      go_wp2_with fail
      refine (l6Promise m la us.length lc bal w1).mono ?_
      rintro e w2 ⟨rfl, hb2⟩
      have B2 : Hid (Below w1.heap.size w1 w2) := hb2
      have P2 : Hid (Blk w2 w.heap.size #[.int .i64 m, .slice la us.length lc] 24) := P1.out.keep hb2
      have Z2 : Hid (Blk w2 (w.heap.size + 2) #[.int .i64 0, .slice none 0 0] 24) := Z1.out.keep hb2
      have E2 : Hid (Blk w2 (w.heap.size + 1) #[.bool n, .int .i64 p, .int .i64 q, .slice a1 xs.length c1, .slice a2 ys.length c2, .int .i64 v, .int .i64 k] 34) := EW.out.keep (B1.out.trans (hb2.mono B1.out.size))
      have K2 : Hid (Below w.heap.size w w2) := K1.out.trans (hb2.mono K1.out.size)
      have S2 : Hid (w.heap.size + 3 ≤ w2.heap.size) := by show _ ≤ _; have := SW.out; have := B1.out.size; have := hb2.size; omega
      clear hb2 p0 p1
      have PT : Hid (promOk m bal = true → promTo m bal = bal) := fun h => by unfold promTo; unfold promOk at h; rw [if_pos h]
      generalize promOk m bal = PK at PT CO ⊢
      cases PK with
      | false =>
        obtain ⟨p0, p1⟩ := P2.out.cells2
        obtain ⟨z0, z1⟩ := Z2.out.cells2
        have fz := Z2.out.frozen
        have CF : Hid (castOk m bal slot ⟨n, p, q, xs, ys, v, k⟩ = false) := CO.out
        clear PT
        generalize promTo m bal = PM
        go_upto_region 4 with fail
        obtain ⟨X, hX⟩ : ∃ X, X = w2.alloc (.cells #[.int .i64 PM, .slice la us.length lc] 24) := ⟨_, rfl⟩
        rw [← hX]
        have BX : Below w2.heap.size w2 X := by rw [hX]; exact (Below.refl _ _).alloc (Nat.le_refl _) _
        have PX : Hid (Blk X w.heap.size #[.int .i64 m, .slice la us.length lc] 24) := P2.out.keep BX
        have ZX : Hid (Blk X (w.heap.size + 2) #[.int .i64 0, .slice none 0 0] 24) := Z2.out.keep BX
        have KX : Hid (Below w.heap.size w X) := K2.out.trans (BX.mono K2.out.size)
        clear hX BX p0 p1 z0 z1 fz
        obtain ⟨p0, p1⟩ := PX.out.cells2
        obtain ⟨z0, z1⟩ := ZX.out.cells2
        have fz := ZX.out.frozen
        go_wp2_with fail
        have zb := (((ZX.out.set 0 (.int .i64 m)).set 1 (.slice la us.length lc)).eq (C' := #[.int .i64 m, .slice la us.length lc]) (by simp)).cells2
        obtain ⟨y0, y1⟩ := zb
        refine bodyPost_ret (v := .tuple #[.agg #[.int .i64 m, .slice la us.length lc], .bool false]) (by simp [results, Try.results76, go_sem, y0, y1]) rfl ?_
        exact NOT.out _ ((KX.out.setCell (by show w.heap.size ≤ w.heap.size + 2; omega) _).setCell (by show w.heap.size ≤ w.heap.size + 2; omega) _) CF.out
      | true =>
        have pm : promTo m bal = bal := PT.out rfl
        rw [pm]
        have CT : Hid (castOk m bal slot ⟨n, p, q, xs, ys, v, k⟩ = true) := CO.out
        clear pm PT CO NOT
        go_upto_region 4 with fail
        obtain ⟨X, hX⟩ : ∃ X, X = w2.alloc (.cells #[.int .i64 bal, .slice la us.length lc] 24) := ⟨_, rfl⟩
        rw [← hX]
        obtain ⟨C, hC⟩ : ∃ C, C = w2.heap.size := ⟨_, rfl⟩
        rw [← hC]
        have BX : Below w2.heap.size w2 X := by rw [hX]; exact (Below.refl _ _).alloc (Nat.le_refl _) _
        have CX : Hid (Blk X C #[.int .i64 bal, .slice la us.length lc] 24) := by show Blk _ _ _ _; rw [hX, hC]; exact Blk.new _ _ _
        have EX : Hid (Blk X (w.heap.size + 1) #[.bool n, .int .i64 p, .int .i64 q, .slice a1 xs.length c1, .slice a2 ys.length c2, .int .i64 v, .int .i64 k] 34) := E2.out.keep BX
        have ZX : Hid (Blk X (w.heap.size + 2) #[.int .i64 0, .slice none 0 0] 24) := Z2.out.keep BX
        have KX : Hid (Below w.heap.size w X) := K2.out.trans (BX.mono K2.out.size)
        have SX : Hid (w.heap.size + 3 ≤ C ∧ X.heap.size = C + 1) := ⟨by have := S2.out; omega, by rw [hX, hC]; simp⟩
        have OX : Hid (OwnL X B (.slice la us.length lc) us) := OL.out.keep KX.out
        obtain ⟨s, rfl⟩ := Int.eq_ofNat_of_zero_le SR.out.1.1
        have hs40 : s < 40 := by have := SR.out.1.2; omega
        have RO : Hid (∀ g, (Value.slice la us.length lc).ownBlock = some g → g < w.heap.size) := ownsRow_lt8 OL.out.row
        obtain ⟨ro, hro⟩ : ∃ ro, ro = (Value.slice la us.length lc).ownBlock := ⟨_, rfl⟩
        have HRO : Hid (ro = (Value.slice la us.length lc).ownBlock) := hro
        have NB0 : Hid (∀ b, w.heap.size ≤ b → ∀ i, blk1 (us.getD i v0) ≠ some b ∧ blk2 (us.getD i v0) ≠ some b) := fun b hb i => by
          by_cases hi : i < us.length
          · have o := OL.out.one i hi
            exact ⟨fun e => by have := (o.b1 b e).2; omega, fun e => by have := (o.b2 b e).2; omega⟩
          · rw [getD_past (Nat.le_of_not_lt hi)]
            exact ⟨fun e => (by simp [blk1, blkOf, v0, e0] at e), fun e => (by simp [blk2, blkOf, v0, e0] at e)⟩
        have NB : Hid (∀ j i, i < (padV us j).length → blk1 ((padV us j).getD i v0) ≠ some C ∧ blk2 ((padV us j).getD i v0) ≠ some C) := fun j i hi => by
          rw [padV_getD]
          exact NB0.out C (by have := SX.out.1; omega) i
        clear hX BX hC SR hro
        go_wp2_with fail
        go_loopw [] (fun wr => ∃ (j : Nat) (a3 : Option Addr) (c3 : Nat), j ≤ s + 1 - us.length ∧ Hid (Blk wr C #[.int .i64 bal, .slice a3 (us.length + j) c3] 24) ∧ Hid (OwnL wr B (.slice a3 (us.length + j) c3) (padV us j)) ∧ Hid (But2 ro C X wr) ∧ Hid ((Value.slice a3 (us.length + j) c3).ownBlock = ro ∨ ∀ g, (Value.slice a3 (us.length + j) c3).ownBlock = some g → X.heap.size ≤ g)) (fun wr => s + 1 - lenAt wr C)
        case atStart => exact ⟨0, la, lc, Nat.zero_le _, CX.out, by show OwnL _ _ _ _; simpa [padV] using OX.out, But2.refl _ _ _, .inl HRO.out.symm⟩
        case round =>
          obtain ⟨j, a3, c3, hj, CR, OR, BR, AR⟩ := hrel
          by_cases hlt : us.length + j ≤ s
          · have hji : ((us.length + j : Nat) : Int) ≤ (s : Int) := by omega
            have hjd : decide (((us.length + j : Nat) : Int) ≤ (s : Int)) = true := decide_eq_true hji
            have BA : Hid (Below wr.heap.size wr (wr.alloc (.cells v0.cells 86))) := (Below.refl _ _).alloc (Nat.le_refl _) _
            have sX := BR.out.size
            have sB := HB.out
            have sC := SX.out
            have kX := KX.out.size
            have RW : Hid ((wr.alloc (.cells v0.cells 86)).ownsRow B 86 8 (.slice a3 (us.length + j) c3) (us.length + j) (flat8 (padV us j))) := by
              have := (OR.out.keep BA.out).row
              rw [padV_len] at this
              exact this
            obtain ⟨m0, m1⟩ := CR.out.cells2
            go_wp2_with (at_builtin; go_loud (refine wpList_append_lies _ rfl (.tmp 39) (.tmp 41) 22 rfl B 86 i0 _ 8 96 Try.underlying22 I0.out.1 I0.out.2.1 I0.out.2.2.1 I0.out.2.2.2 rfl (by decide) (.slice a3 (us.length + j) c3) (us.length + j) (flat8 (padV us j)) rfl RW.out ⟨wr.heap.size, 0, none⟩ 1 1 v0.cells.toList rfl rfl (eight_new wr v0) (cells_one v0) (by decide) (by unfold maxLen; omega) (by omega) (by rw [size_new]; omega) (wr.heap.size + 1) (size_new _ _) ?_))
            intro g4 cap4 w4 hown4 hgr hloc hg4
            have OW4 : Hid (OwnL w4 B (.slice (some ⟨g4, 0, none⟩) (us.length + (j + 1)) cap4) (padV us (j + 1))) := by
              show OwnL _ _ _ _
              rw [padV_succ]
              exact OR.out.snoc BA.out (one_v0 _ _) (by omega) (by rw [padV_len]; exact hown4) hgr (fun g hg => by
                simp only [Value.ownBlock] at hg
                injection hg with hg
                rcases hloc with hloc | hloc
                · left; rw [hloc, hg]
                · right; rw [size_new]; omega)
            have NC : (Value.slice a3 (us.length + j) c3).ownBlock ≠ some C := fun e => by
              rcases AR.out with ar | ar
              · have := RO.out C (by rw [← HRO.out, ← ar]; exact e); omega
              · have := ar C e; omega
            have blk4 : ∀ b, b < wr.heap.size → (Value.slice a3 (us.length + j) c3).ownBlock ≠ some b → w4.heap[b]? = wr.heap[b]? := fun b hb hn => (hgr.block b (by rw [size_new]; omega) (fun e => hn e.symm)).trans (heap_old _ _ _ hb)
            have C4 : Hid (Blk w4 C #[.int .i64 bal, .slice a3 (us.length + j) c3] 24) := by
              show Blk _ _ _ _
              unfold Blk
              rw [blk4 C CR.out.lt NC]; exact CR.out
            have N4 : Hid (But2 ro C X w4) := ⟨hgr.os.trans BR.out.os, hgr.tape.trans BR.out.tape, hgr.output.trans BR.out.output, by have := hgr.size; rw [size_new] at this; omega, fun b hb h1 h2 => (blk4 b (by omega) (fun e => by
              rcases AR.out with ar | ar
              · exact h1 (by rw [← ar]; exact e)
              · have := ar b e; omega)).trans (BR.out.block b hb h1 h2)⟩
            have A4 : Hid ((Value.slice (some ⟨g4, 0, none⟩) (us.length + (j + 1)) cap4).ownBlock = ro ∨ ∀ g, (Value.slice (some ⟨g4, 0, none⟩) (us.length + (j + 1)) cap4).ownBlock = some g → X.heap.size ≤ g) := by
              show _ ∨ _
              rcases hloc with hl | hl
              · rcases AR.out with ar | ar
                · left; rw [← ar, hl]; rfl
                · right
                  intro g hg
                  simp only [Value.ownBlock] at hg
                  injection hg with hg
                  have := ar g4 hl
                  omega
              · right
                intro g hg
                simp only [Value.ownBlock] at hg
                injection hg with hg
                omega
            clear hown4 hgr hloc hg4 m0 m1 blk4 NC
            obtain ⟨m0, m1⟩ := C4.out.cells2
            have fr := C4.out.frozen
            go_wp2_with fail
            have CN : Blk (w4.setCell ⟨C, 1, none⟩ (.slice (some ⟨g4, 0, none⟩) (us.length + (j + 1)) cap4)) C #[.int .i64 bal, .slice (some ⟨g4, 0, none⟩) (us.length + (j + 1)) cap4] 24 := (C4.out.set 1 _).eq (by simp)
            have on : Only C w4 (w4.setCell ⟨C, 1, none⟩ (.slice (some ⟨g4, 0, none⟩) (us.length + (j + 1)) cap4)) := (Only.refl _ _).setCell _
            refine ⟨⟨j + 1, some ⟨g4, 0, none⟩, cap4, by omega, CN, OW4.out.onlyOut on ⟨fun e => ?_, NB.out (j + 1)⟩, ⟨on.os.trans N4.out.os, on.tape.trans N4.out.tape, on.output.trans N4.out.output, Nat.le_trans N4.out.size (Nat.le_of_eq on.size.symm), fun b hb h1 h2 => (on.block b h2).trans (N4.out.block b hb h1 h2)⟩, A4.out⟩, ?_⟩
            · rcases A4.out with ar | ar
              · have := RO.out C (by rw [← HRO.out, ← ar]; exact e); omega
              · have := ar C e; omega
            · have e1 := lenAt_blk CN
              have e2 := lenAt_blk CR.out
              first
                | (rw [e2]; have e3 := e1; simp only [Nat.add_assoc] at *; omega)
                | omega
          · have hji : ¬ ((us.length + j : Nat) : Int) ≤ (s : Int) := by omega
            have hjd : decide (((us.length + j : Nat) : Int) ≤ (s : Int)) = false := decide_eq_false hji
            obtain ⟨Ln, hd⟩ : ∃ Ln, us.length + j = Ln := ⟨_, rfl⟩
            have hsl : s < Ln := by omega
            have hsi : (s : Int) < (Ln : Int) := by omega
            have hjs : j = s + 1 - us.length := by omega
            obtain ⟨U, hU⟩ : ∃ U, U = padV us j := ⟨_, rfl⟩
            have UL : Hid (U.length = Ln) := by show _ = _; rw [hU, padV_len, hd]
            have UB : Hid (bodies U = bodies us ++ List.replicate (s + 1 - (bodies us).length) (0, e0)) := by show _ = _; rw [hU, bodies_pad, bodies_len, ← hjs]
            have NU : Hid (∀ b, w.heap.size ≤ b → ∀ i, i < U.length → blk1 (U.getD i v0) ≠ some b ∧ blk2 (U.getD i v0) ≠ some b) := fun b hb i hi => by
              rw [hU, padV_getD]
              exact NB0.out b hb i
            rw [hd] at CR OR AR
            rw [← hU] at OR
            clear hU
            have sX := BR.out.size
            have sC := SX.out
            have sB := HB.out
            have kX := KX.out.size
            have hne : U ≠ [] := fun e => by have := UL.out; rw [e] at this; simp at this; omega
            obtain ⟨g, capg, hgv, _, ov, _⟩ := (show OwnL wr B (.slice a3 Ln c3) U from OR.out).vs hne
            obtain rfl : a3 = some ⟨g, 0, none⟩ := by injection hgv with e1 e2 e3
            have AG : Hid ((Value.slice (some ⟨g, 0, none⟩) Ln c3).ownBlock = some g) := rfl
            have NG : Hid (C ≠ g ∧ w.heap.size + 1 ≠ g ∧ w.heap.size + 2 ≠ g) := by
              show _ ∧ _
              rcases AR.out with ar | ar
              · have := RO.out g (by rw [← HRO.out, ← ar]; exact AG.out); omega
              · have := ar g AG.out; omega
            have NRO : ∀ b, w.heap.size ≤ b → ro ≠ some b := fun b hb e => by have := RO.out b (by rw [← HRO.out]; exact e); omega
            have ER : Hid (Blk wr (w.heap.size + 1) #[.bool n, .int .i64 p, .int .i64 q, .slice a1 xs.length c1, .slice a2 ys.length c2, .int .i64 v, .int .i64 k] 34) := by
              show Blk _ _ _ _
              unfold Blk
              rw [BR.out.block _ EX.out.lt (NRO _ (by omega)) (by omega)]; exact EX.out
            have ZR : Hid (Blk wr (w.heap.size + 2) #[.int .i64 0, .slice none 0 0] 24) := by
              show Blk _ _ _ _
              unfold Blk
              rw [BR.out.block _ ZX.out.lt (NRO _ (by omega)) (by omega)]; exact ZX.out
            have BWR : Hid (Below B w wr) := ⟨BR.out.os.trans KX.out.os, BR.out.tape.trans KX.out.tape, BR.out.output.trans KX.out.output, Nat.le_trans kX sX, fun b hb => (BR.out.block b (by omega) (fun e => by
              have hr := OL.out.from b (by rw [← HRO.out]; exact e)
              omega) (by omega)).trans (KX.out.block b (by omega))⟩
            have SLW : ∀ (a : Option Addr) (zs : List (Int × Int)), Sl w a zs → (∀ x, a = some x → zs ≠ [] → (Value.slice la us.length lc).ownBlock ≠ some x.block) → Sl wr a zs := fun a zs hs hap => by
              by_cases hz : zs = []
              · exact .inl hz
              · exact hs.sameB (Nat.le_trans kX sX) fun x ex hx => (BR.out.block _ (by omega) (fun e => hap x ex hz (by rw [← HRO.out]; exact e)) (by omega)).trans (KX.out.block _ hx)
            have EN : Hid (∀ V, Below wr.heap.size wr V → Calls Try.prog 118 #[.agg #[.bool n, .int .i64 p, .int .i64 q, .slice a1 xs.length c1, .slice a2 ys.length c2, .int .i64 v, .int .i64 k]] V fun e w' => ∃ g1 e1 g2 e2, e = .returned (.agg #[.bool n, .int .i64 p, .int .i64 q, .slice (some ⟨g1, 0, none⟩) xs.length e1, .slice (some ⟨g2, 0, none⟩) ys.length e2, .int .i64 v, .int .i64 k]) ∧ RunE w' V.heap.size g1 e1 g2 e2 xs ys ∧ Below V.heap.size V w') := fun V hV => l5EntryX n p q a1 a2 c1 c2 xs ys v k V ((SLW a1 xs H1.out AP.out.1).below hV) ((SLW a2 ys H2.out AP.out.2).below hV) n1 n2
            have AF : Hid (∀ V, Below wr.heap.size wr V → V.cell? ⟨C, 1, none⟩ = some (.slice (some ⟨g, 0, none⟩) Ln c3) ∧ V.cell? ⟨w.heap.size + 1, 0, none⟩ = some (.bool n) ∧ V.cell? ⟨w.heap.size + 1, 1, none⟩ = some (.int .i64 p) ∧ V.cell? ⟨w.heap.size + 1, 2, none⟩ = some (.int .i64 q) ∧ V.cell? ⟨w.heap.size + 1, 3, none⟩ = some (.slice a1 xs.length c1) ∧ V.cell? ⟨w.heap.size + 1, 4, none⟩ = some (.slice a2 ys.length c2) ∧ V.cell? ⟨w.heap.size + 1, 5, none⟩ = some (.int .i64 v) ∧ V.cell? ⟨w.heap.size + 1, 6, none⟩ = some (.int .i64 k)) := fun V hV => ⟨(CR.out.keep hV).cells2.2, (ER.out.keep hV).cells7⟩
            obtain ⟨V, hV⟩ : ∃ V, V = wr.drew := ⟨_, rfl⟩
            have HV : Hid (V = wr.drew) := hV
            have BV : Hid (Below wr.heap.size wr V) := by show Below _ _ _; rw [hV]; exact (Below.refl _ _).drew
            have BVB : Hid (B ≤ V.heap.size) := by show _ ≤ _; have := BV.out.size; omega
            have OLV : Hid (OwnL V B (.slice (some ⟨g, 0, none⟩) Ln c3) U) := (show OwnL wr B (.slice (some ⟨g, 0, none⟩) Ln c3) U from OR.out).keep BV.out
            have OV : Hid (OwnVs V B g U) := by
              show OwnVs _ _ _ _
              obtain ⟨g', capg', hgv', _, ov', _⟩ := OLV.out.vs hne
              have : g' = g := by injection hgv' with e1 e2 e3; injection e1 with e1; injection e1 with e1; exact e1.symm
              rw [← this]; exact ov'
            have NO : Hid (∀ y, OneOwn V V.heap.size y → True) := fun _ _ => trivial
            obtain ⟨m0, m1⟩ := CR.out.cells2
            obtain ⟨b0, b1, b2, b3, b4, b5, b6⟩ := ER.out.cells7
            have pv := AF.out V BV.out
            have pu := AF.out wr (Below.refl _ _)
            clear hV hgv ov hne SLW NRO
            go_upto_region 8 with fail
            refine wp_region_held_drew (S := (fun w' : World => w'.cell? ⟨C, 1, none⟩ = some (.slice (some ⟨g, 0, none⟩) Ln c3) ∧ w'.cell? ⟨w.heap.size + 1, 0, none⟩ = some (.bool n) ∧ w'.cell? ⟨w.heap.size + 1, 1, none⟩ = some (.int .i64 p) ∧ w'.cell? ⟨w.heap.size + 1, 2, none⟩ = some (.int .i64 q) ∧ w'.cell? ⟨w.heap.size + 1, 3, none⟩ = some (.slice a1 xs.length c1) ∧ w'.cell? ⟨w.heap.size + 1, 4, none⟩ = some (.slice a2 ys.length c2) ∧ w'.cell? ⟨w.heap.size + 1, 5, none⟩ = some (.int .i64 v) ∧ w'.cell? ⟨w.heap.size + 1, 6, none⟩ = some (.int .i64 k))) (by kernel_rfl) pu (fun hHeld => ?_)
            rw [← HV.out]
            refine wpAnyH_take (i := 0) (v := ?vt0) rfl (by kernel_rfl) (by kernel_rfl) (by kernel_rfl) (fun _ _ _ h => h) (Or.inl ⟨by rfl, ?yt0⟩) (by assumption) ?rt0
            case yt0 =>
              intro w' hSw
              try dsimp only at hSw
              go_simp
              try with_reducible rfl
            simp only [Act.put, List.getElem_toArray, List.getElem_cons_succ, List.getElem_cons_zero, List.setIfInBounds_toArray, List.set_cons_zero, List.set_cons_succ]
            refine wpAnyH_take (i := 1) (v := ?vt1) rfl (by kernel_rfl) (by kernel_rfl) (by kernel_rfl) (fun _ _ _ h => h) (Or.inl ⟨by rfl, ?yt1⟩) (by assumption) ?rt1
            case yt1 =>
              intro w' hSw
              try dsimp only at hSw
              go_simp
              try with_reducible rfl
            simp only [Act.put, List.getElem_toArray, List.getElem_cons_succ, List.getElem_cons_zero, List.setIfInBounds_toArray, List.set_cons_zero, List.set_cons_succ]
            refine wpAnyH_take (i := 2) (v := ?vt2) rfl (by kernel_rfl) (by kernel_rfl) (by kernel_rfl) (fun _ _ _ h => h) (Or.inl ⟨by rfl, ?yt2⟩) (by assumption) ?rt2
            case yt2 =>
              intro w' hSw
              try dsimp only at hSw
              go_simp
              try with_reducible rfl
            simp only [Act.put, List.getElem_toArray, List.getElem_cons_succ, List.getElem_cons_zero, List.setIfInBounds_toArray, List.set_cons_zero, List.set_cons_succ]
            refine wpAnyH_take (i := 3) (v := ?vt3) rfl (by kernel_rfl) (by kernel_rfl) (by kernel_rfl) (fun _ _ _ h => h) (Or.inl ⟨by rfl, ?yt3⟩) (by assumption) ?rt3
            case yt3 =>
              intro w' hSw
              try dsimp only at hSw
              go_simp
              try with_reducible rfl
            simp only [Act.put, List.getElem_toArray, List.getElem_cons_succ, List.getElem_cons_zero, List.setIfInBounds_toArray, List.set_cons_zero, List.set_cons_succ]
            refine wpAnyH_take (i := 4) (v := ?vt4) rfl (by kernel_rfl) (by kernel_rfl) (by kernel_rfl) (fun _ _ _ h => h) (Or.inl ⟨by rfl, ?yt4⟩) (by assumption) ?rt4
            case yt4 =>
              intro w' hSw
              try dsimp only at hSw
              go_simp
              try with_reducible rfl
            simp only [Act.put, List.getElem_toArray, List.getElem_cons_succ, List.getElem_cons_zero, List.setIfInBounds_toArray, List.set_cons_zero, List.set_cons_succ]
            refine wpAnyH_ready (rs := [5]) (by kernel_rfl) (by simp) ?_
            refine AllReadyH.cons rfl (fun K hK => ?_) AllReadyH.nil
            go_simp
            refine Calls.mono (EN.out _ BV.out) ?_
            rintro e w3 ⟨g1, e1, g2, e2, rfl, r3, b3⟩
            obtain ⟨y, hy⟩ : ∃ y : VM, y = ⟨bal, ⟨n, p, q, xs, ys, v, k⟩, some ⟨g1, 0, none⟩, e1, some ⟨g2, 0, none⟩, e2⟩ := ⟨_, rfl⟩
            have YB : Hid (y.body = (bal, ⟨n, p, q, xs, ys, v, k⟩)) := by show _ = _; rw [hy]; rfl
            have Y3 : Hid (OneOwn w3 V.heap.size y) := by show OneOwn _ _ _; rw [hy]; exact RunE.one (b := ⟨n, p, q, xs, ys, v, k⟩) r3 bal
            have B3 : Hid (Below V.heap.size V w3) := b3
            have B23 : Hid (Below wr.heap.size wr w3) := BV.out.trans (b3.mono BV.out.size)
            have SETS : Hid (set8 w3 g (s * 8) y = (((((((w3.setCell ⟨g, s * 8, none⟩ (.int .i64 bal)).setCell ⟨g, s * 8 + 1, none⟩ (.bool n)).setCell ⟨g, s * 8 + 2, none⟩ (.int .i64 p)).setCell ⟨g, s * 8 + 3, none⟩ (.int .i64 q)).setCell ⟨g, s * 8 + 4, none⟩ (.slice (some ⟨g1, 0, none⟩) xs.length e1)).setCell ⟨g, s * 8 + 5, none⟩ (.slice (some ⟨g2, 0, none⟩) ys.length e2)).setCell ⟨g, s * 8 + 6, none⟩ (.int .i64 v)).setCell ⟨g, s * 8 + 7, none⟩ (.int .i64 k)) := by show _ = _; rw [hy]; rfl
            refine hK.out _ _ (AF.out w3 B23.out) (fun hH3 => ?_)
            clear hK K r3 b3 hy
            refine wpAnyH_take (i := 6) (v := ?vt6) rfl (by kernel_rfl) (by kernel_rfl) (by kernel_rfl) (fun _ _ _ h => h) (Or.inl ⟨by rfl, ?yt6⟩) (by assumption) ?rt6
            case yt6 =>
              intro w' hSw
              try dsimp only at hSw
              go_simp
              try with_reducible rfl
            simp only [Act.put, List.getElem_toArray, List.getElem_cons_succ, List.getElem_cons_zero, List.setIfInBounds_toArray, List.set_cons_zero, List.set_cons_succ]
            refine wpAnyH_take (i := 7) (v := ?vt7) rfl (by kernel_rfl) (by kernel_rfl) (by kernel_rfl) (fun _ _ _ h => h) (Or.inl ⟨by rfl, ?yt7⟩) (by assumption) ?rt7
            case yt7 =>
              intro w' hSw
              try dsimp only at hSw
              go_simp
              try with_reducible rfl
            simp only [Act.put, List.getElem_toArray, List.getElem_cons_succ, List.getElem_cons_zero, List.setIfInBounds_toArray, List.set_cons_zero, List.set_cons_succ]
            refine wpAnyH_ready (rs := [8]) (by kernel_rfl) (by simp) ?_
            refine AllReadyH.cons rfl (fun K hK => ?_) AllReadyH.nil
            have hgb := OV.out.lt
            obtain ⟨k0, k1, k2, k3, k4, k5, k6, k7⟩ : C8 w3 g (s * 8) (U.getD s v0) := (OV.out.cell s (by rw [UL.out]; omega)).congr fun l hl => B3.out.cell (p := ⟨g, s * 8 + l, none⟩) hgb
            have fr : ∀ o, w3.frozen? ⟨g, o, none⟩ = false := fun o => by rw [B3.out.frozen (p := ⟨g, o, none⟩) hgb]; exact OV.out.fr o
            go_simp
            rw [← SETS.out]
            have PUT : Hid (OwnL (set8 w3 g (s * 8) y) B (.slice (some ⟨g, 0, none⟩) Ln c3) (U.set s y)) := OLV.out.put B3.out Y3.out (by have := BVB.out; omega) s (by rw [UL.out]; omega) AG.out
            have KEEP : Hid (∀ b, b < wr.heap.size → b ≠ g → (set8 w3 g (s * 8) y).heap[b]? = wr.heap[b]?) := fun b hb hn => by rw [set8_keep _ _ _ _ _ hn]; exact B23.out.block b hb
            have C9 : Hid (Blk (set8 w3 g (s * 8) y) C #[.int .i64 bal, .slice (some ⟨g, 0, none⟩) Ln c3] 24) := by
              show Blk _ _ _ _
              unfold Blk
              rw [KEEP.out C CR.out.lt NG.out.1]; exact CR.out
            have E9 : Hid (Blk (set8 w3 g (s * 8) y) (w.heap.size + 1) #[.bool n, .int .i64 p, .int .i64 q, .slice a1 xs.length c1, .slice a2 ys.length c2, .int .i64 v, .int .i64 k] 34) := by
              show Blk _ _ _ _
              unfold Blk
              rw [KEEP.out _ ER.out.lt NG.out.2.1]; exact ER.out
            have Z9 : Hid (Blk (set8 w3 g (s * 8) y) (w.heap.size + 2) #[.int .i64 0, .slice none 0 0] 24) := by
              show Blk _ _ _ _
              unfold Blk
              rw [KEEP.out _ ZR.out.lt NG.out.2.2]; exact ZR.out
            have K9 : Hid (Below B w (set8 w3 g (s * 8) y)) := set8_below (BWR.out.trans (B23.out.mono (by have := BVB.out; have := BV.out.size; omega))) OV.out.lo _ _
            refine hK.out _ _ ⟨C9.out.cells2.2, E9.out.cells7⟩ (fun hHx => ?_)
            refine wpAnyH_done (by kernel_rfl) ?_ _
            obtain ⟨W9, hW9⟩ : ∃ W9, W9 = set8 w3 g (s * 8) y := ⟨_, rfl⟩
            rw [← hW9] at PUT C9 Z9 K9 ⊢
            clear KEEP SETS hK K hHx hHeld hH3 k0 k1 k2 k3 k4 k5 k6 k7 fr hW9 E9
            obtain ⟨m0, m1⟩ := C9.out.cells2
            obtain ⟨z0, z1⟩ := Z9.out.cells2
            have fz := Z9.out.frozen
            go_wp2_with fail
            have zb := (((Z9.out.set 0 (.int .i64 bal)).set 1 (.slice (some ⟨g, 0, none⟩) Ln c3)).eq (C' := #[.int .i64 bal, .slice (some ⟨g, 0, none⟩) Ln c3]) (by simp)).cells2
            obtain ⟨y0, y1⟩ := zb
            refine bodyPost_ret (v := .tuple #[.agg #[.int .i64 bal, .slice (some ⟨g, 0, none⟩) Ln c3], .bool true]) (by simp [results, Try.results76, go_sem, y0, y1]) rfl ?_
            have on : Only (w.heap.size + 2) W9 ((W9.setCell ⟨w.heap.size + 2, 0, none⟩ (.int .i64 bal)).setCell ⟨w.heap.size + 2, 1, none⟩ (.slice (some ⟨g, 0, none⟩) Ln c3)) := ((Only.refl _ _).setCell _).setCell _
            refine ⟨_, U.set s y, by rw [CT.out]; rfl, PUT.out.onlyOut on ⟨fun e => NG.out.2.2 (by rw [AG.out] at e; injection e with e; exact e.symm), fun i hi => ?_⟩, ?_, K9.out.trans (on.below (by have := HB.out; omega))⟩
            · have hi' : i < U.length := by rw [List.length_set] at hi; exact hi
              rw [getD_setV _ _ _ _ (by rw [UL.out]; omega)]
              by_cases e : s = i
              · rw [if_pos e]
                have sv := BV.out.size
                have sy := B3.out.size
                have sx := BR.out.size
                have sc := SX.out
                exact ⟨fun e => by have := (Y3.out.b1 _ e).1; omega, fun e => by have := (Y3.out.b2 _ e).1; omega⟩
              · rw [if_neg e]
                exact NU.out _ (by omega) i hi'
            · rw [CT.out, if_pos rfl, bodies_set, YB.out, UB.out]
              rfl
end Go.Proofs.Ytbbbfnfpmaogoaa.Own
