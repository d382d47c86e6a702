/-
  Own text: what spec.DrawSerialAll does.
-/
import Derived.Test.YtgcencilgpilaaaPk1
import Derived.Test.YtgcencilgpilaaaPk2
import Derived.Test.YtgcencilgpilaaaQSerMem
import Derived.Test.YtgcencilgpilaaaPk5
import Derived.RangeFuncBox
namespace Go.Proofs.Ytgcencilgpilaaa.Own
open Go.RowKit
set_option linter.unusedVariables false
set_option linter.unusedSimpArgs false

theorem infoInsS : (Try.prog.info? 51).map (fun i => (i.zero, i.size, i.bytes)) = some (some (.slice none 0 0), 1, 24) := by kernel_rfl

/-- Programs that a call made, and the list of them. -/
def OwnPS (w : World) (B : Nat) (v : Value) (ps : List PS) : Prop := w.ownsRow B 51 1 v ps.length (ps.map psV) ∧ ∀ i, i < ps.length → OwnQ w B (psV (ps.getD i p0)) (ps.getD i p0).2.2 ∧ (ps.getD i p0).2.2.length ≤ 11

theorem ownsRow_grown {w w' : World} {B n size : Nat} {t : TypeId} {v : Value} {xs : List Value} {row : Option Nat} (h : w.ownsRow B t size v n xs) (hg : w.grownBy w' row) (hr : ∀ k, row = some k → k < B) : w'.ownsRow B t size v n xs := by
  refine World.ownsRow.kept h hg ?_
  cases e : v.ownBlock with
  | none => exact .inl rfl
  | some b => exact .inr (fun e' => by have := World.ownsRow.lt h b e; have := hr b e'.symm; omega)
theorem OwnPS.grown {w w' : World} {B : Nat} {v : Value} {ps : List PS} {row : Option Nat} (h : OwnPS w B v ps) (hg : w.grownBy w' row) (hr : ∀ k, row = some k → k < B) : OwnPS w' B v ps :=
  ⟨ownsRow_grown h.1 hg hr, fun i hi => ⟨ownsRow_grown (h.2 i hi).1 hg hr, (h.2 i hi).2⟩⟩
theorem barGrown {rb : Nat} {w w' : World} (h : Bar rb w w') : w.grownBy w' (some rb) := ⟨h.os, h.tape, h.output, h.size, fun k hk hn => h.block k hk (fun e => hn (by rw [e]))⟩

/-- A list's own row of slices is no program's. -/
theorem OwnPS.apart {w : World} {B n m : Nat} {v u : Value} {xs ys : List Value} (h : w.ownsRow B 51 1 v n xs) (h2 : w.ownsRow B 156 4 u m ys) : u.ownBlock = none ∨ u.ownBlock ≠ v.ownBlock := by
  rcases h2.2 with ⟨rfl, _⟩ | ⟨g, _, _, rfl, _, hg, _⟩
  · exact .inl rfl
  · rcases h.2 with ⟨rfl, _⟩ | ⟨g', _, _, rfl, _, hg', _⟩
    · exact .inr (by simp [Value.ownBlock])
    · refine .inr fun e => ?_
      simp only [Value.ownBlock] at e
      injection e with e
      subst e
      rw [hg] at hg'
      injection hg' with hg'
      injection hg' with _ ht _
      exact absurd ht (by decide)
theorem OwnPS.add {w w' : World} {B : Nat} {v v' : Value} {ps : List PS} {p : PS} (h : OwnPS w B v ps) (hp : OwnQ w B (psV p) p.2.2) (hl : p.2.2.length ≤ 11) (hg : w.grownBy w' v.ownBlock) (hown : w'.ownsRow B 51 1 v' (ps.length + 1) (ps.map psV ++ [psV p])) : OwnPS w' B v' (ps ++ [p]) := by
  refine ⟨by simpa using hown, fun i hi => ?_⟩
  by_cases hlt : i < ps.length
  · rw [show (ps ++ [p]).getD i p0 = ps.getD i p0 by simp [List.getD, List.getElem?_append_left hlt]]
    exact ⟨World.ownsRow.kept (h.2 i hlt).1 hg (OwnPS.apart h.1 (h.2 i hlt).1), (h.2 i hlt).2⟩
  · have : i = ps.length := by simp at hi; omega
    subst this
    rw [show (ps ++ [p]).getD ps.length p0 = p by simp [List.getD]]
    exact ⟨World.ownsRow.kept hp hg (OwnPS.apart h.1 hp), hl⟩
theorem OwnPS.slP {w : World} {B : Nat} {v : Value} {ps : List PS} (h : OwnPS w B v ps) : ∃ a cap, v = .slice a ps.length cap ∧ ps.length ≤ cap ∧ SlP w a ps := by
  obtain ⟨⟨h1, h2⟩, h3⟩ := h
  rcases h2 with ⟨hv, h0⟩ | ⟨g, cap, cur, hv, hg, hh, hmc, hml, hsz, htk⟩
  · exact ⟨none, 0, by rw [hv, h0], by omega, .inl (List.eq_nil_of_length_eq_zero h0)⟩
  · refine ⟨some ⟨g, 0, none⟩, cap, hv, hmc, .inr ⟨g, 0, rfl, (Array.getElem?_eq_some_iff.1 hh).1, fun i hi => ⟨?_, ?_, by have := (h3 i hi).2; omega⟩⟩⟩
    · rw [Nat.zero_add, cell_heap hh]
      have e : (cur.toList.take (ps.length * 1))[i]? = some (psV (ps.getD i p0)) := by
        rw [htk, List.getElem?_map]; simp [List.getD, hi]
      rw [List.getElem?_take_of_lt (by omega)] at e
      simpa using e
    · obtain ⟨a, cap, e, s, _⟩ := (h3 i hi).1.open
      unfold psV at e
      injection e with e
      rw [e]; exact s

def DrawnSA (w w' : World) (e : Ending) : Prop := ∃ gb bs gp pcap ps, e = .returned (.tuple #[.slice (some ⟨gb, 0, none⟩) (List.length (α := P2) bs) 4, .slice (some ⟨gp, 0, none⟩) (List.length (α := PS) ps) pcap]) ∧ (bs.length ≤ 4 ∧ ps.length ≤ 6 ∧ ps.length ≤ pcap) ∧ BoxAt w' gb 0 bs ∧ SlP w' (some ⟨gp, 0, none⟩) ps ∧ Below w.heap.size w w'

set_option maxRecDepth 100000 in
set_option maxHeartbeats 4000000 in
theorem drawSerialAll (a : Option Addr) (n c : Nat) (w : World) (h : Bytes w w.heap.size a n) (hc : n ≤ c) (hm : c ≤ maxLen) :
    Calls Try.prog 26 #[.slice a n c] w fun e w' => DrawnSA w w' e := by
  have HB : Hid (Bytes w w.heap.size a n) := h
  have HM : Hid (c ≤ maxLen) := hm
  clear h
  obtain ⟨i0, hi, hz0, hz1, hz2⟩ := info_parts infoInsS
  have I0 : Hid (Try.prog.info? 51 = some i0 ∧ i0.zero = some (.slice none 0 0) ∧ i0.size = 1 ∧ i0.bytes = 24) := ⟨hi, hz0, hz1, hz2⟩
  clear hi hz0 hz1 hz2
  go_enter Try.func26, Try.ntmps26
  go_wp2_with fail
  refine (l15Open a n c w HB.out hc HM.out).mono ?_
  rintro e w1 ⟨rfl, hR, hb⟩
  have R1 : Hid (Rd w1 w.heap.size (w.heap.size + 1) 0) := hR
  have B1 : Hid (Below w.heap.size w w1) := hb
  have S1 : Hid (w.heap.size + 1 ≤ w1.heap.size) := hR.2.1
  clear hR hb
  go_wp2_with fail
  refine (l1Boxes w.heap.size (w.heap.size + 1) 0 w1 R1.out (by omega)).mono ?_
  rintro e w2 ⟨bs, hl, rfl, hat, _, _, ⟨p2, hp2, hR2⟩, hbar⟩
  have A2 : Hid (BoxAt w2 w1.heap.size 0 bs) := hat
  have lb : Hid (bs.length ≤ 4) := by show _ ≤ _; omega
  obtain ⟨W, hW⟩ : ∃ W, W = w2.alloc (.cells #[] 51) := ⟨_, rfl⟩
  have bW : Below w2.heap.size w2 W := by rw [hW]; exact below_new _ _
  have RW : Hid (Rd W w.heap.size (w.heap.size + 1) p2) := by show Rd _ _ _ _; rw [hW]; exact hR2.alloc _
  have BW : Hid (Bar w.heap.size w1 W) := hbar.trans (Bar.ofBelow bW)
  have AW : Hid (BoxAt W w1.heap.size 0 bs) := hat.below bW
  have OW : Hid (OwnPS W w2.heap.size (.slice (some ⟨w2.heap.size, 0, none⟩) 0 0) []) := by
    show OwnPS _ _ _ _
    rw [hW]
    exact ⟨⟨rfl, .inr ⟨w2.heap.size, 0, #[], rfl, Nat.le_refl _, heap_new _ _, Nat.le_refl _, by unfold maxLen; omega, rfl, rfl⟩⟩, fun i hi => by simp at hi⟩
  have S2 : Hid (w1.heap.size < w2.heap.size ∧ w.heap.size < w1.heap.size ∧ w2.heap.size ≤ W.heap.size) := ⟨hat.1, by have := S1.out; omega, bW.size⟩
  have HW : Hid (W = _) := hW
  clear hW bW hat hbar hR2 hl
  go_wp2_with fail
  rw [← HW.out]
  refine (pick w.heap.size (w.heap.size + 1) p2 6 W RW.out (by omega) (by omega) (by omega)).mono ?_
  rintro e w3 ⟨⟨m, rfl, m0, m1⟩, hR, hO⟩
  obtain ⟨m, rfl⟩ := Int.eq_ofNat_of_zero_le m0
  have R3 : Hid (Rd w3 w.heap.size (w.heap.size + 1) (p2 + 1)) := hR
  have hg3 := barGrown (Bar.ofOnly hO)
  have O3 : Hid (OwnPS w3 w2.heap.size (.slice (some ⟨w2.heap.size, 0, none⟩) 0 0) []) := OW.out.grown hg3 (fun k e => by injection e with e; have := S2.out; omega)
  have A3 : Hid (BoxAt w3 w1.heap.size 0 bs) := AW.out.only hO (by have := S2.out; omega)
  have B3 : Hid (Bar w.heap.size w1 w3) := BW.out.trans (Bar.ofOnly hO)
  clear hR hO hg3 m0
  -- what a further program adds
  go_wp2_with fail
  go_loopw [6, 7] (fun v i wr => ∃ (j g cap : Nat) (ps : List PS), j ≤ m ∧ i = .int .i64 j ∧ v = .slice (some ⟨g, 0, none⟩) ps.length cap ∧ ps.length + j = m ∧ Hid (OwnPS wr w2.heap.size (.slice (some ⟨g, 0, none⟩) ps.length cap) ps ∧ BoxAt wr w1.heap.size 0 bs ∧ (∃ p', p' ≤ 50 + 200 * ps.length ∧ Rd wr w.heap.size (w.heap.size + 1) p') ∧ Bar w.heap.size w1 wr)) (fun _ i _ => (intOf i).toNat)
  case atStart => exact ⟨m, w2.heap.size, 0, [], Nat.le_refl _, rfl, rfl, by simp, O3.out, A3.out, ⟨p2 + 1, by omega, R3.out⟩, B3.out⟩
  case round =>
    clear O3 A3 R3 B3 OW RW AW BW HW A2 R1
    obtain ⟨j, g, cap, ps, hj, rfl, rfl, hpl, IV⟩ := hrel
    obtain ⟨hown, hat, ⟨p', hp', hrd⟩, hbar⟩ := IV.out
    have OV : Hid (OwnPS wr w2.heap.size (.slice (some ⟨g, 0, none⟩) ps.length cap) ps) := hown
    have AV : Hid (BoxAt wr w1.heap.size 0 bs) := hat
    have RV : Hid (Rd wr w.heap.size (w.heap.size + 1) p') := hrd
    have BV : Hid (Bar w.heap.size w1 wr) := hbar
    have hg : Hid (w2.heap.size ≤ g) := (World.ownsRow.lt hown.1 g rfl).1
    have h2r : Hid (w2.heap.size ≤ wr.heap.size) := by have := World.ownsRow.lt hown.1 g rfl; show _ ≤ _; omega
    clear IV hown hat hrd hbar
    by_cases hlt : 0 < j
    · go_wp2_with fail
      refine (l2Prog w.heap.size (w.heap.size + 1) p' wr RV.out (by omega)).mono ?_
      rintro e w4 ⟨g4, cap4, xs, rfl, hq, hxl, _, ⟨p4, hp4, hr4⟩, hbar⟩
      have gB := barGrown hbar
      have s2 := S2.out
      have O4 : Hid (OwnPS w4 w2.heap.size (.slice (some ⟨g, 0, none⟩) ps.length cap) ps) := OV.out.grown gB (fun k e => by injection e with e; omega)
      have Q4' : Hid (OwnQ w4 w2.heap.size (.slice (some ⟨g4, 0, none⟩) xs.length cap4) xs) := OwnQ.lower hq h2r.out
      have A4 : Hid (BoxAt w4 w1.heap.size 0 bs) := hbar.at AV.out (by omega)
      have R4 : Hid (Rd w4 w.heap.size (w.heap.size + 1) p4) := hr4
      have B4 : Hid (Bar w.heap.size w1 w4) := BV.out.trans hbar
      have h24 : Hid (w2.heap.size ≤ w4.heap.size) := Nat.le_trans h2r.out hbar.size
      have OA : Hid (OwnPS (w4.alloc (.cells #[.slice (some ⟨g4, 0, none⟩) xs.length cap4] 51)) w2.heap.size (.slice (some ⟨g, 0, none⟩) ps.length cap) ps) := O4.out.grown (World.grownBy_alloc _ _ none) (fun k e => by cases e)
      have QA : Hid (OwnQ (w4.alloc (.cells #[.slice (some ⟨g4, 0, none⟩) xs.length cap4] 51)) w2.heap.size (psV (some ⟨g4, 0, none⟩, cap4, xs)) xs) := Q4'.out.keep (below_new _ _)
      clear hq hr4 hbar gB
      go_wp2_with (at_builtin; refine wpList_append_own _ rfl (.tmp 19) (.tmp 22) 45 rfl w2.heap.size 51 i0 (.slice none 0 0) 1 24 Try.underlying45 I0.out.1 I0.out.2.1 I0.out.2.2.1 I0.out.2.2.2 rfl (by decide) (.slice (some ⟨g, 0, none⟩) ps.length cap) ps.length (ps.map psV) rfl OA.out.1 ⟨w4.heap.size, 0, none⟩ 1 1 [.slice (some ⟨g4, 0, none⟩) xs.length cap4] rfl rfl (cell_one_new _ _ _) (by simp [Value.oneCell']) (by unfold maxLen; omega) (by omega) (by have := h24.out; simp; omega) ?_; intro v' w5 hown' hgrow _; obtain ⟨g', cap', rfl⟩ := ownsRow_succ hown'; have HGR : Hid _ := hgrow; have HOW : Hid _ := hown'; clear hgrow hown')
      go_roundw
      case rel =>
        have hgr := HGR.out
        have hgg := hg.out
        have ga := World.grownBy_alloc w4 (.cells #[.slice (some ⟨g4, 0, none⟩) xs.length cap4] 51) none
        refine ⟨j - 1, g', cap', ps ++ [(some ⟨g4, 0, none⟩, cap4, xs)], by omega, by go_num, by simp, by simp; omega, ?_, ?_, ⟨p4, by simp; omega, ?_⟩, ?_⟩
        · have := OA.out.add QA.out (by show xs.length ≤ 11; omega) hgr HOW.out
          simpa using this
        · exact (A4.out.grown ga (by simp)).grown hgr (fun e => by simp only [Value.ownBlock] at e; injection e with e; omega)
        · exact (R4.out.alloc _).grown hgr (fun k hk => by simp only [Value.ownBlock] at hk; injection hk with hk; omega)
        · exact (B4.out.alloc _).grown hgr (fun k hk => by simp only [Value.ownBlock] at hk; injection hk with hk; omega)
      case measure => simp [intOf]; omega
    · go_wp2_with fail
      refine (pick w.heap.size (w.heap.size + 1) p' 12 wr RV.out (by omega) (by omega) (by omega)).mono ?_
      rintro e w4 ⟨⟨z, rfl, z0, z1⟩, hR, hO⟩
      have s2 := S2.out
      have O4 : Hid (OwnPS w4 w2.heap.size (.slice (some ⟨g, 0, none⟩) ps.length cap) ps) := OV.out.grown (barGrown (Bar.ofOnly hO)) (fun k e => by injection e with e; omega)
      have A4 : Hid (BoxAt w4 w1.heap.size 0 bs) := AV.out.only hO (by omega)
      have R4 : Hid (Rd w4 w.heap.size (w.heap.size + 1) (p' + 1)) := hR
      have B4 : Hid (Bar w.heap.size w1 w4) := BV.out.trans (Bar.ofOnly hO)
      have h24 : Hid (w2.heap.size ≤ w4.heap.size) := by have := h2r.out; show _ ≤ _; rw [hO.size]; exact this
      have FIN : Hid (∀ (W' : World) (g' cap' : Nat) (qs : List PS), qs.length ≤ 6 → OwnPS W' w2.heap.size (.slice (some ⟨g', 0, none⟩) qs.length cap') qs → BoxAt W' w1.heap.size 0 bs → Bar w.heap.size w1 W' → DrawnSA w W' (.returned (.tuple #[.slice (some ⟨w1.heap.size, 0, none⟩) bs.length 4, .slice (some ⟨g', 0, none⟩) qs.length cap']))) := fun W' g' cap' qs hq ho ha hb => by
        obtain ⟨a', c', e, hc', hs⟩ := ho.slP
        injection e with e1 e2 e3
        subst e3
        exact ⟨_, bs, _, _, qs, rfl, ⟨lb.out, hq, hc'⟩, ha, by rw [e1]; exact hs, B1.out.trans (hb.below (Nat.le_refl _) B1.out.size)⟩
      clear hR hO
      by_cases hz : z = 0
      · subst hz
        go_wp2_with fail
        refine (l2Bent w.heap.size (w.heap.size + 1) (p' + 1) w4 R4.out (by omega)).mono ?_
        rintro e w5 ⟨g5, cap5, xs, rfl, hq, hxl, _, _, hbar⟩
        have gB := barGrown hbar
        have O5 : Hid (OwnPS w5 w2.heap.size (.slice (some ⟨g, 0, none⟩) ps.length cap) ps) := O4.out.grown gB (fun k e => by injection e with e; omega)
        have Q5 : Hid (OwnQ w5 w2.heap.size (.slice (some ⟨g5, 0, none⟩) xs.length cap5) xs) := OwnQ.lower hq h24.out
        have A5 : Hid (BoxAt w5 w1.heap.size 0 bs) := hbar.at A4.out (by omega)
        have B5 : Hid (Bar w.heap.size w1 w5) := B4.out.trans hbar
        have h25 : Hid (w2.heap.size ≤ w5.heap.size) := Nat.le_trans h24.out hbar.size
        have OA : Hid (OwnPS (w5.alloc (.cells #[.slice (some ⟨g5, 0, none⟩) xs.length cap5] 51)) w2.heap.size (.slice (some ⟨g, 0, none⟩) ps.length cap) ps) := O5.out.grown (World.grownBy_alloc _ _ none) (fun k e => by cases e)
        have QA : Hid (OwnQ (w5.alloc (.cells #[.slice (some ⟨g5, 0, none⟩) xs.length cap5] 51)) w2.heap.size (psV (some ⟨g5, 0, none⟩, cap5, xs)) xs) := Q5.out.keep (below_new _ _)
        clear hq hbar gB
        go_wp2_with (at_builtin; refine wpList_append_own _ rfl (.tmp 27) (.tmp 30) 45 rfl w2.heap.size 51 i0 (.slice none 0 0) 1 24 Try.underlying45 I0.out.1 I0.out.2.1 I0.out.2.2.1 I0.out.2.2.2 rfl (by decide) (.slice (some ⟨g, 0, none⟩) ps.length cap) ps.length (ps.map psV) rfl OA.out.1 ⟨w5.heap.size, 0, none⟩ 1 1 [.slice (some ⟨g5, 0, none⟩) xs.length cap5] rfl rfl (cell_one_new _ _ _) (by simp [Value.oneCell']) (by unfold maxLen; omega) (by omega) (by have := h25.out; simp; omega) ?_; intro v' w6 hown' hgrow _; obtain ⟨g', cap', rfl⟩ := ownsRow_succ hown'; have HGR : Hid _ := hgrow; have HOW : Hid _ := hown'; clear hgrow hown')
        refine bodyPost_ret (v := .tuple #[.slice (some ⟨w1.heap.size, 0, none⟩) bs.length 4, .slice (some ⟨g', 0, none⟩) (ps ++ [((some ⟨g5, 0, none⟩ : Option Addr), cap5, xs)]).length cap']) (by simp [results, Try.results26, go_sem]) rfl ?_
        have hgr := HGR.out
        have hgg := hg.out
        have ga := World.grownBy_alloc w5 (.cells #[.slice (some ⟨g5, 0, none⟩) xs.length cap5] 51) none
        refine FIN.out _ _ _ _ (by simp; omega) ?_ ?_ ?_
        · have := OA.out.add QA.out (by show xs.length ≤ 11; omega) hgr HOW.out
          simpa using this
        · exact (A5.out.grown ga (by simp)).grown hgr (fun e => by simp only [Value.ownBlock] at e; injection e with e; omega)
        · exact (B5.out.alloc _).grown hgr (fun k hk => by simp only [Value.ownBlock] at hk; injection hk with hk; omega)
      · have hz' : (z == 0) = false := by simpa using hz
        go_wp2_with fail
        refine bodyPost_ret (v := .tuple #[.slice (some ⟨w1.heap.size, 0, none⟩) bs.length 4, .slice (some ⟨g, 0, none⟩) ps.length cap]) (by simp [results, Try.results26, go_sem]) rfl ?_
        exact FIN.out _ _ _ _ (by omega) O4.out A4.out B4.out
end Go.Proofs.Ytgcencilgpilaaa.Own
