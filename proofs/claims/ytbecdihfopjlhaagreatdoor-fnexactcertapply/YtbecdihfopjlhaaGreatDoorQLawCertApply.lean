/-
  Own text: laws.FnExactCertApply.
-/
import Derived.Test.YtbecdihfopjlhaaGreatDoorPk32
import Derived.Test.YtbecdihfopjlhaaGreatDoorPk28
import Derived.Test.YtbecdihfopjlhaaGreatDoorPk37
import Derived.Test.YtbecdihfopjlhaaGreatDoorPk35
import Derived.Test.YtbecdihfopjlhaaGreatDoorPk38
import Derived.Test.YtbecdihfopjlhaaGreatDoorPk39
namespace Go.Proofs.YtbecdihfopjlhaaGreatDoor.Own
open Go.RowKit
set_option linter.unusedVariables false
set_option linter.unusedSimpArgs false

theorem stOwn_below {w w' : World} {B g1 g2 : Nat} {bs : List P2} {ds : List Q4} (h : StOwn w B g1 g2 bs ds) (hb : Below w.heap.size w w') : StOwn w' B g1 g2 bs ds :=
  ⟨h.1, h.2.1, h.2.2.1, h.2.2.2.1.below hb, h.2.2.2.2.1.below hb, h.2.2.2.2.2.1.block (hb.block _ h.2.2.2.1.1), h.2.2.2.2.2.2.block (hb.block _ h.2.2.2.2.1.1)⟩
/-- An answer's state in block g, its lists of their own from B on, none of them that block. -/
def AnsAt (z : Int) (bs : List P2) (ds : List Q4) (B : Nat) (w : World) (g : Nat) (s1 s2 : Option Addr) (e1 e2 : Nat) : Prop :=
  Blk w g #[.int .i64 z, .slice s1 bs.length e1, .slice s2 ds.length e2] 28 ∧ StB bs ds B w s1 s2 ∧ B ≤ g ∧ (∀ x, s1 = some x → x.block ≠ g) ∧ (∀ x, s2 = some x → x.block ≠ g)

theorem AnsAt.below {z : Int} {bs : List P2} {ds : List Q4} {B : Nat} {w w' : World} {g : Nat} {s1 s2 : Option Addr} {e1 e2 : Nat} (h : AnsAt z bs ds B w g s1 s2 e1 e2) (hb : Below w.heap.size w w') : AnsAt z bs ds B w' g s1 s2 e1 e2 :=
  ⟨h.1.keep hb, h.2.1.below hb, h.2.2⟩
theorem AnsAt.turned {L : List Nat} {z : Int} {bs : List P2} {ds : List Q4} {B : Nat} {w w' : World} {g : Nat} {s1 s2 : Option Addr} {e1 e2 : Nat} (h : AnsAt z bs ds B w g s1 s2 e1 e2) (ht : Turned L w w') (h0 : g ∉ L) (h1 : ∀ x, s1 = some x → x.block ∉ L) (h2 : ∀ x, s2 = some x → x.block ∉ L) : AnsAt z bs ds B w' g s1 s2 e1 e2 :=
  ⟨by show w'.heap[g]? = _; rw [ht.block g h.1.lt h0]; exact h.1, h.2.1.turned ht h1 h2, h.2.2⟩
theorem Blk.turned' {L : List Nat} {w w' : World} {b : Nat} {C : Array Value} {t : TypeId} (h : Blk w b C t) (ht : Turned L w w') (hb : b ∉ L) : Blk w' b C t := by show w'.heap[b]? = _; rw [ht.block b h.lt hb]; exact h
theorem Row.frz {w : World} {b m : Nat} (h : Row w b m) (o : Nat) : w.frozen? ⟨b, o, none⟩ = false := by obtain ⟨C, h1, _⟩ := h; exact frozen_heap h1 o
theorem RowD.frz {w : World} {b m : Nat} (h : RowD w b m) (o : Nat) : w.frozen? ⟨b, o, none⟩ = false := by obtain ⟨C, h1, _⟩ := h; exact frozen_heap h1 o
theorem RowR.frz {w : World} {b m : Nat} (h : RowR w b m) (o : Nat) : w.frozen? ⟨b, o, none⟩ = false := by obtain ⟨C, h1, _⟩ := h; exact frozen_heap h1 o
theorem RowP.frz {w : World} {b m : Nat} (h : RowP w b m) (o : Nat) : w.frozen? ⟨b, o, none⟩ = false := by obtain ⟨C, h1, _⟩ := h; exact frozen_heap h1 o
theorem stOwn_stB {w : World} {B g1 g2 : Nat} {bs : List P2} {ds : List Q4} (h : StOwn w B g1 g2 bs ds) : StB bs ds B w (some ⟨g1, 0, none⟩) (some ⟨g2, 0, none⟩) := by
  obtain ⟨a, b, c, d, e, f, g⟩ := h
  refine ⟨.inr ⟨g1, rfl, a, d, f.frz⟩, .inr ⟨g2, rfl, b, e, g.frz⟩, fun x y ex ey => ?_, fun x ex => ?_, fun x ex => ?_⟩
  · injection ex with ex; injection ex with ex; injection ey with ey; injection ey with ey; omega
  · injection ex with ex; subst ex; exact ⟨a, d.1⟩
  · injection ex with ex; subst ex; exact ⟨b, e.1⟩

set_option maxRecDepth 100000 in
set_option maxHeartbeats 8000000 in
theorem lawCertApply (N : Nat) (E : Nat → Addr) (z : Int) (a1 a2 : Option Addr) (c1 c2 : Nat) (bs : List P2) (ds : List Q4) (n : Bool) (p q : Int) (b1 b2 : Option Addr) (d1 d2 : Nat) (xs ys : List P2) (v k : Int) (w : World)
    (hE : Errs N w E) (h1 : Sl w a1 bs) (h2 : Sl4 w a2 ds) (hc1 : bs.length ≤ c1) (hc2 : ds.length ≤ c2) (hm1 : c1 ≤ maxLen) (hm2 : c2 ≤ maxLen) (h3 : Sl w b1 xs) (h4 : Sl w b2 ys) (hd1 : xs.length ≤ d1) (hd2 : ys.length ≤ d2) (hm3 : d1 ≤ maxLen) (hm4 : d2 ≤ maxLen) :
    Calls Tryz.prog 6 #[.agg #[.int .i64 z, .slice a1 bs.length c1, .slice a2 ds.length c2], .agg #[.bool n, .int .i64 p, .int .i64 q, .slice b1 xs.length d1, .slice b2 ys.length d2, .int .i64 v, .int .i64 k]] w fun e w' => e = .returned (.bool true) ∧ Below w.heap.size w w' := by
  have m1 : bs.length ≤ maxLen := Nat.le_trans hc1 hm1
  have m2 : ds.length ≤ maxLen := Nat.le_trans hc2 hm2
  have m3 : xs.length ≤ maxLen := Nat.le_trans hd1 hm3
  have m4 : ys.length ≤ maxLen := Nat.le_trans hd2 hm4
  obtain ⟨W, hW⟩ : ∃ W, W = (w.alloc (.cells #[.int .i64 z, .slice a1 bs.length c1, .slice a2 ds.length c2] 60)).alloc (.cells #[.bool n, .int .i64 p, .int .i64 q, .slice b1 xs.length d1, .slice b2 ys.length d2, .int .i64 v, .int .i64 k] 67) := ⟨_, rfl⟩
  have bW : Below w.heap.size w W := by rw [hW]; exact ((Below.refl _ _).alloc (Nat.le_refl _) _).alloc (by simp) _
  have BW : Hid (Below w.heap.size w W) := bW
  have PW : Hid (Blk W w.heap.size #[.int .i64 z, .slice a1 bs.length c1, .slice a2 ds.length c2] 60) := by show Blk _ _ _ _; rw [hW]; exact (Blk.new _ _ _).alloc _
  have QW : Hid (Blk W (w.heap.size + 1) #[.bool n, .int .i64 p, .int .i64 q, .slice b1 xs.length d1, .slice b2 ys.length d2, .int .i64 v, .int .i64 k] 67) := by show Blk _ _ _ _; rw [hW]; exact Blk.new2 _ _ _ _
  have EW : Hid (Errs N W E) := hE.keep bW
  have S1 : Hid (Sl W a1 bs) := h1.below bW
  have S2 : Hid (Sl4 W a2 ds) := h2.below bW
  have S3 : Hid (Sl W b1 xs) := h3.below bW
  have S4 : Hid (Sl W b2 ys) := h4.below bW
  have HW : Hid (W = _) := hW
  have AF : Hid (∀ V, Below W.heap.size W V → (V.cell? ⟨w.heap.size, 0, none⟩ = some (.int .i64 z) ∧ V.cell? ⟨w.heap.size, 1, none⟩ = some (.slice a1 bs.length c1) ∧ V.cell? ⟨w.heap.size, 2, none⟩ = some (.slice a2 ds.length c2)) ∧ (V.cell? ⟨w.heap.size + 1, 0, none⟩ = some (.bool n) ∧ V.cell? ⟨w.heap.size + 1, 1, none⟩ = some (.int .i64 p) ∧ V.cell? ⟨w.heap.size + 1, 2, none⟩ = some (.int .i64 q) ∧ V.cell? ⟨w.heap.size + 1, 3, none⟩ = some (.slice b1 xs.length d1) ∧ V.cell? ⟨w.heap.size + 1, 4, none⟩ = some (.slice b2 ys.length d2) ∧ V.cell? ⟨w.heap.size + 1, 5, none⟩ = some (.int .i64 v) ∧ V.cell? ⟨w.heap.size + 1, 6, none⟩ = some (.int .i64 k))) := fun V hV => ⟨(PW.out.keep hV).cells3, (QW.out.keep hV).cells7⟩
  clear hE h1 h2 h3 h4 hW bW hm1 hm2 hm3 hm4
  by_cases hn1 : bs.length + ds.length ≤ 1048576
  · by_cases hn2 : bs.length + ds.length + xs.length + ys.length ≤ 1048576
    · have l1 : bs.length ≤ 2 ^ 40 := by omega
      have l2 : ds.length ≤ 2 ^ 40 := by omega
      have l3 : xs.length ≤ 2 ^ 40 := by omega
      have l4 : ys.length ≤ 2 ^ 40 := by omega
      have TOS : Hid (∀ V, Below W.heap.size W V → Calls Tryz.prog 20 #[.agg #[.int .i64 z, .slice a1 bs.length c1, .slice a2 ds.length c2]] V fun e w' => ∃ g1 g2, e = .returned (.agg #[.int .i64 z, .slice (some ⟨g1, 0, none⟩) bs.length bs.length, .slice (some ⟨g2, 0, none⟩) ds.length ds.length]) ∧ Hid (StOwn w' V.heap.size g1 g2 bs ds ∧ Below V.heap.size V w')) := fun V hV =>
        toState z a1 a2 c1 c2 bs ds V (S1.out.below hV) (S2.out.below hV) l1 l2
      have TOE : Hid (∀ V, Below W.heap.size W V → Calls Tryz.prog 21 #[.agg #[.bool n, .int .i64 p, .int .i64 q, .slice b1 xs.length d1, .slice b2 ys.length d2, .int .i64 v, .int .i64 k]] V fun e w' => ∃ g1 g2, e = .returned (.agg #[.bool n, .int .i64 p, .int .i64 q, .slice (some ⟨g1, 0, none⟩) xs.length xs.length, .slice (some ⟨g2, 0, none⟩) ys.length ys.length, .int .i64 v, .int .i64 k]) ∧ Hid (RunOwn w' V.heap.size g1 g2 xs ys ∧ Below V.heap.size V w')) := fun V hV =>
        toEntry n p q b1 b2 d1 d2 xs ys v k V (S3.out.below hV) (S4.out.below hV) l3 l4
      obtain ⟨zz, hzz⟩ : ∃ zz, zz = apZ z bs ds n p q xs ys v k := ⟨_, rfl⟩
      obtain ⟨bn, hbn⟩ : ∃ bn, bn = apB z bs ds n p q xs ys v k := ⟨_, rfl⟩
      obtain ⟨dn, hdn⟩ : ∃ dn, dn = apD z bs ds n p q xs ys v k := ⟨_, rfl⟩
      obtain ⟨cc, hcc⟩ : ∃ cc, cc = apC z bs ds n p q xs ys v k := ⟨_, rfl⟩
      have SC : Hid (∀ (V : World) (g1 g2 g3 g4 : Nat), BoxAt V g1 0 bs → At4 V g2 0 ds → BoxAt V g3 0 xs → BoxAt V g4 0 ys → Calls Tryz.prog 19 #[.agg #[.int .i64 z, .slice (some ⟨g1, 0, none⟩) bs.length bs.length, .slice (some ⟨g2, 0, none⟩) ds.length ds.length], .agg #[.bool n, .int .i64 p, .int .i64 q, .slice (some ⟨g3, 0, none⟩) xs.length xs.length, .slice (some ⟨g4, 0, none⟩) ys.length ys.length, .int .i64 v, .int .i64 k]] V
          fun e w' => ∃ s1 s2 e1 e2, e = .returned (.tuple #[.agg #[.int .i64 zz, .slice s1 bn.length e1, .slice s2 dn.length e2], .int .i64 cc]) ∧ Hid (StB bn dn V.heap.size w' s1 s2 ∧ Below V.heap.size V w')) := fun V g1 g2 g3 g4 x1 x2 x3 x4 => by
        subst hzz hbn hdn hcc
        exact (specCertApply z (some ⟨g1, 0, none⟩) (some ⟨g2, 0, none⟩) bs.length ds.length bs ds n p q (some ⟨g3, 0, none⟩) (some ⟨g4, 0, none⟩) xs.length ys.length xs ys v k V (.inr ⟨_, _, rfl, x1⟩) (.inr ⟨_, _, rfl, x2⟩) l1 l2 (.inr ⟨_, _, rfl, x3⟩) (.inr ⟨_, _, rfl, x4⟩) l3 l4 (Nat.le_refl _) (Nat.le_refl _)).mono fun e w' ⟨s1, s2, e1, e2, he, _, _, hs, hb⟩ => ⟨s1, s2, e1, e2, he, hs, hb⟩
      have IC : Hid (∀ (V : World) (g1 g2 g3 g4 : Nat), Below W.heap.size W V → BoxAt V g1 0 bs → At4 V g2 0 ds → BoxAt V g3 0 xs → BoxAt V g4 0 ys → Calls Tryz.prog 14 #[.agg #[.int .i64 z, .slice (some ⟨g1, 0, none⟩) bs.length bs.length, .slice (some ⟨g2, 0, none⟩) ds.length ds.length], .agg #[.bool n, .int .i64 p, .int .i64 q, .slice (some ⟨g3, 0, none⟩) xs.length xs.length, .slice (some ⟨g4, 0, none⟩) ys.length ys.length, .int .i64 v, .int .i64 k]] V
          fun e w' => ∃ s1 s2 e1 e2, e = .returned (.tuple #[.agg #[.int .i64 zz, .slice s1 bn.length e1, .slice s2 dn.length e2], .int .i64 cc]) ∧ Hid (StB bn dn V.heap.size w' s1 s2 ∧ Below V.heap.size V w')) := fun V g1 g2 g3 g4 hV x1 x2 x3 x4 => by
        subst hzz hbn hdn hcc
        exact (implCertApply N E z (some ⟨g1, 0, none⟩) (some ⟨g2, 0, none⟩) bs.length ds.length bs ds n p q (some ⟨g3, 0, none⟩) (some ⟨g4, 0, none⟩) xs.length ys.length xs ys v k V (EW.out.keep hV) (.inr ⟨_, _, rfl, x1⟩) (.inr ⟨_, _, rfl, x2⟩) (Nat.le_refl _) l2 (.inr ⟨_, _, rfl, x3⟩) (.inr ⟨_, _, rfl, x4⟩) l3 l4).mono fun e w' ⟨s1, s2, e1, e2, he, _, _, hs, hb⟩ => ⟨s1, s2, e1, e2, he, hs, hb⟩
      have LN : Hid (bn.length ≤ 4 ∧ dn.length ≤ 3) := by
        show _ ∧ _
        rw [hbn, hdn]
        unfold apB apD
        split
        · rename_i hg
          have hb4 := boxOk_len (stOk_parts (goodA_parts hg).1).2.2.1
          refine ⟨?_, listM_len _⟩
          unfold boxesBy
          split
          · rw [doPuts_length]; omega
          · omega
        · exact ⟨by simp, by simp⟩
      have FIN : Hid (∀ (R L : World) (gA : Nat) (s1 s2 : Option Addr) (e1 e2 : Nat), Below R.heap.size R L → Blk L gA #[.int .i64 0, .slice none 0 0, .slice none 0 0] 28 → R.heap.size ≤ gA → StB bn dn R.heap.size L s1 s2 → (∀ x, s1 = some x → x.block ≠ gA) → (∀ x, s2 = some x → x.block ≠ gA) →
          ∀ X, X = (((L.setCell ⟨gA, 0, none⟩ (.int .i64 zz)).setCell ⟨gA, 1, none⟩ (.slice s1 bn.length e1)).setCell ⟨gA, 2, none⟩ (.slice s2 dn.length e2)) → AnsAt zz bn dn R.heap.size X gA s1 s2 e1 e2 ∧ Below R.heap.size R X) := fun R L gA s1 s2 e1 e2 hb hz hg hs f1 f2 X hX => by
        have on : Only gA L X := by rw [hX]; exact (((Only.refl _ _).setCell _).setCell _).setCell _
        have zb := ((hz.set 0 (.int .i64 zz)).set 1 (.slice s1 bn.length e1)).set 2 (.slice s2 dn.length e2)
        exact ⟨⟨by rw [hX]; exact zb.eq (by simp), hs.turned (Turned.ofOnly (L := [gA]) on (by simp)) (fun x e => by simp; exact f1 x e) (fun x e => by simp; exact f2 x e), hg, f1, f2⟩, hb.trans (on.below hg)⟩
      clear hzz hbn hdn hcc
      go_enter Tryz.func6, Tryz.ntmps6
      obtain ⟨⟨p0, p1, p2⟩, _⟩ := AF.out W (Below.refl _ _)
      go_wp2_with fail
      rw [← HW.out]
      refine (szState z a1 a2 bs.length c1 ds.length c2 1048576 W m1 m2 (by decide) (by decide)).mono ?_
      rintro e w1 ⟨rfl, b1'⟩
      rw [if_neg (by omega)]
      have hpos : ¬ (1048576 : Int) - (bs.length : Int) - (ds.length : Int) < 0 := by omega
      have B1 : Hid (Below W.heap.size W w1) := b1'
      clear b1' p0 p1 p2
      obtain ⟨_, ⟨q0, q1, q2, q3, q4, q5, q6⟩⟩ := AF.out w1 B1.out
      go_wp2_with fail
      refine (szEntry n p q b1 b2 xs.length d1 ys.length d2 v k (1048576 - bs.length - ds.length) w1 m3 m4 (by omega) (by omega)).mono ?_
      rintro e w2 ⟨rfl, b2'⟩
      rw [if_neg (by omega)]
      have hpos2 : ¬ (1048576 : Int) - (bs.length : Int) - (ds.length : Int) - (xs.length : Int) - (ys.length : Int) < 0 := by omega
      have B2 : Hid (Below W.heap.size W w2) := B1.out.trans (b2'.mono B1.out.size)
      clear b2' q0 q1 q2 q3 q4 q5 q6
      obtain ⟨⟨p0, p1, p2⟩, ⟨q0, q1, q2, q3, q4, q5, q6⟩⟩ := AF.out w2 B2.out
      go_upto_region 8 with fail
      go_cut [6, 7] from 27 to 34 (fun pp c wx => ∃ g s1 s2 e1 e2, pp = .pointer (some ⟨g, 0, none⟩) ∧ c = .int .i64 cc ∧ AnsAt zz bn dn W.heap.size wx g s1 s2 e1 e2 ∧ Below W.heap.size W wx)
      case first =>
        have BASE : Hid (Below W.heap.size W w2) := B2.out
        have BD0 : Hid (Below W.heap.size W w2.drew) := B2.out.drew
        have BASE : Hid (Below W.heap.size W w2) := B2.out
        have BD0 : Hid (Below W.heap.size W w2.drew) := B2.out.drew
        refine wp_region_held_drew (S := (fun w' : World => (w'.cell? ⟨w.heap.size, 0, none⟩ = some (.int .i64 z) ∧ w'.cell? ⟨w.heap.size, 1, none⟩ = some (.slice a1 bs.length c1) ∧ w'.cell? ⟨w.heap.size, 2, none⟩ = some (.slice a2 ds.length c2)) ∧ (w'.cell? ⟨w.heap.size + 1, 0, none⟩ = some (.bool n) ∧ w'.cell? ⟨w.heap.size + 1, 1, none⟩ = some (.int .i64 p) ∧ w'.cell? ⟨w.heap.size + 1, 2, none⟩ = some (.int .i64 q) ∧ w'.cell? ⟨w.heap.size + 1, 3, none⟩ = some (.slice b1 xs.length d1) ∧ w'.cell? ⟨w.heap.size + 1, 4, none⟩ = some (.slice b2 ys.length d2) ∧ w'.cell? ⟨w.heap.size + 1, 5, none⟩ = some (.int .i64 v) ∧ w'.cell? ⟨w.heap.size + 1, 6, none⟩ = some (.int .i64 k)))) (by kernel_rfl) (AF.out w2.drew BD0.out) (fun hHeld => ?_)
        refine wpAnyH_take (i := 0) (v := ?vax0) rfl (by kernel_rfl) (by kernel_rfl) (by kernel_rfl) (fun _ _ _ h => h) (Or.inl ⟨by rfl, ?yax0⟩) (by assumption) ?rax0
        case yax0 =>
          intro w' hSw
          try dsimp only at hSw
          go_simp
          try with_reducible rfl
        simp only [Act.put, List.getElem_toArray, List.getElem_cons_succ, List.getElem_cons_zero, List.setIfInBounds_toArray, List.set_cons_zero, List.set_cons_succ]
        refine wpAnyH_take (i := 2) (v := ?vax2) rfl (by kernel_rfl) (by kernel_rfl) (by kernel_rfl) (fun _ _ _ h => h) (Or.inl ⟨by rfl, ?yax2⟩) (by assumption) ?rax2
        case yax2 =>
          intro w' hSw
          try dsimp only at hSw
          go_simp
          try with_reducible rfl
        simp only [Act.put, List.getElem_toArray, List.getElem_cons_succ, List.getElem_cons_zero, List.setIfInBounds_toArray, List.set_cons_zero, List.set_cons_succ]
        refine wpAnyH_ready (rs := [1, 8]) (by kernel_rfl) (by simp) ?_
        refine AllReadyH.cons rfl (fun K hK => ?_) (AllReadyH.cons rfl (fun K hK => ?_) AllReadyH.nil)
        · go_simp
          refine Calls.mono (TOS.out _ BD0.out) ?_
          rintro e w3 ⟨g1, g2, rfl, F3⟩
          have B3 : Hid (Below W.heap.size W w3) := BD0.out.trans (F3.out.2.mono BD0.out.size)
          have SO : Hid (StOwn w3 W.heap.size g1 g2 bs ds) := ⟨Nat.le_trans BD0.out.size F3.out.1.1, Nat.le_trans BD0.out.size F3.out.1.2.1, F3.out.1.2.2⟩
          refine hK.out _ _ (AF.out w3 B3.out) (fun hH0 => ?_)
          clear hK K
          refine wpAnyH_ready (rs := [3, 8]) (by kernel_rfl) (by simp) ?_
          refine AllReadyH.cons rfl (fun K hK => ?_) (AllReadyH.cons rfl (fun K hK => ?_) AllReadyH.nil)
          · go_simp
            refine Calls.mono (TOE.out _ B3.out) ?_
            rintro e w4 ⟨g3, g4, rfl, F4⟩
            have B4 : Hid (Below W.heap.size W w4) := B3.out.trans (F4.out.2.mono B3.out.size)
            have AO : Hid (StOwn w4 W.heap.size g1 g2 bs ds ∧ RunOwn w4 W.heap.size g3 g4 xs ys) := ⟨stOwn_below SO.out F4.out.2, ⟨Nat.le_trans B3.out.size F4.out.1.1, Nat.le_trans B3.out.size F4.out.1.2.1, F4.out.1.2.2⟩⟩
            refine hK.out _ _ (AF.out w4 B4.out) (fun hH1 => ?_)
            clear hK K
            refine wpAnyH_ready (rs := [4, 8]) (by kernel_rfl) (by simp) ?_
            refine AllReadyH.cons rfl (fun K hK => ?_) (AllReadyH.cons rfl (fun K hK => ?_) AllReadyH.nil)
            · go_simp
              refine Calls.mono (SC.out _ g1 g2 g3 g4 AO.out.1.2.2.2.1 AO.out.1.2.2.2.2.1 AO.out.2.2.2.2.1 AO.out.2.2.2.2.2.1) ?_
              rintro e w5 ⟨s1, s2, e1, e2, rfl, F5⟩
              have B5 : Hid (Below W.heap.size W w5) := B4.out.trans (F5.out.2.mono B4.out.size)
              refine hK.out _ _ (AF.out w5 B5.out) (fun hH2 => ?_)
              clear hK K
              refine wpAnyH_take (i := 5) (v := ?vaccc5) rfl (by kernel_rfl) (by kernel_rfl) (by kernel_rfl) (fun _ _ _ h => h) (Or.inl ⟨by rfl, ?yaccc5⟩) (by assumption) ?raccc5
              case yaccc5 =>
                intro w' hSw
                try dsimp only at hSw
                go_simp
                try with_reducible rfl
              simp only [Act.put, List.getElem_toArray, List.getElem_cons_succ, List.getElem_cons_zero, List.setIfInBounds_toArray, List.set_cons_zero, List.set_cons_succ]
              refine wpAnyH_take (i := 6) (v := ?vaccc6) rfl (by kernel_rfl) (by kernel_rfl) (by kernel_rfl) (fun _ _ _ h => h) (Or.inl ⟨by rfl, ?yaccc6⟩) (by assumption) ?raccc6
              case yaccc6 =>
                intro w' hSw
                try dsimp only at hSw
                go_simp
                try with_reducible rfl
              simp only [Act.put, List.getElem_toArray, List.getElem_cons_succ, List.getElem_cons_zero, List.setIfInBounds_toArray, List.set_cons_zero, List.set_cons_succ]
              refine wpAnyH_take (i := 7) (v := ?vaccc7) rfl (by kernel_rfl) (by kernel_rfl) (by kernel_rfl) (fun _ _ _ h => h) (Or.inl ⟨by rfl, ?yaccc7⟩) (by assumption) ?raccc7
              case yaccc7 =>
                intro w' hSw
                try dsimp only at hSw
                go_simp
                try with_reducible rfl
              simp only [Act.put, List.getElem_toArray, List.getElem_cons_succ, List.getElem_cons_zero, List.setIfInBounds_toArray, List.set_cons_zero, List.set_cons_succ]
              refine wpAnyH_ready (rs := [8]) (by kernel_rfl) (by simp) ?_
              refine AllReadyH.cons rfl (fun K hK => ?_) AllReadyH.nil
              go_simp
              obtain ⟨u, hu⟩ : ∃ u, u = w5.alloc (.cells #[.int .i64 0, .slice none 0 0, .slice none 0 0] 28) := ⟨_, rfl⟩
              have BU : Hid (Below W.heap.size W u) := by show Below _ _ _; rw [hu]; exact B5.out.alloc B5.out.size _
              have ZU : Hid (Blk u w5.heap.size #[.int .i64 0, .slice none 0 0, .slice none 0 0] 28) := by show Blk _ _ _ _; rw [hu]; exact Blk.new _ _ _
              have Bu0 : Hid (Below w5.heap.size w5 u) := by show Below _ _ _; rw [hu]; exact below_new _ _
              rw [← hu]
              refine hK.out _ _ (AF.out u BU.out) (fun hHa => ?_)
              clear hK K hu
              have S5 : Hid (StB bn dn W.heap.size u s1 s2) := (F5.out.1.below Bu0.out).weaken B4.out.size
              have N5 : Hid ((∀ x, s1 = some x → x.block ≠ w5.heap.size) ∧ (∀ x, s2 = some x → x.block ≠ w5.heap.size)) := ⟨fun x e => by have := (F5.out.1.far1 x e).2; omega, fun x e => by have := (F5.out.1.far2 x e).2; omega⟩
              obtain ⟨z0, z1, z2⟩ := ZU.out.cells3
              have fz := ZU.out.frozen
              refine wpAnyH_ready (rs := [9]) (by kernel_rfl) (by simp) ?_
              refine AllReadyH.cons rfl (fun K hK => ?_) AllReadyH.nil
              go_simp
              have FI := FIN.out W u w5.heap.size s1 s2 e1 e2 BU.out ZU.out B5.out.size S5.out N5.out.1 N5.out.2 _ rfl
              refine hK.out _ _ (AF.out _ FI.2) (fun hH9 => ?_)
              clear hK K
              refine wpAnyH_take (i := 10) (v := ?vaccca10) rfl (by kernel_rfl) (by kernel_rfl) (by kernel_rfl) (fun _ _ _ h => h) (Or.inl ⟨by rfl, ?yaccca10⟩) (by assumption) ?raccca10
              case yaccca10 =>
                intro w' hSw
                try dsimp only at hSw
                go_simp
                try with_reducible rfl
              simp only [Act.put, List.getElem_toArray, List.getElem_cons_succ, List.getElem_cons_zero, List.setIfInBounds_toArray, List.set_cons_zero, List.set_cons_succ]
              refine wpAnyH_done (by kernel_rfl) ?_ _
              go_wp2_with fail
              go_meet
              exact ⟨_, s1, s2, e1, e2, rfl, rfl, FI.1, FI.2⟩
            · go_simp
              obtain ⟨u, hu⟩ : ∃ u, u = w4.alloc (.cells #[.int .i64 0, .slice none 0 0, .slice none 0 0] 28) := ⟨_, rfl⟩
              have BU : Hid (Below W.heap.size W u) := by show Below _ _ _; rw [hu]; exact B4.out.alloc B4.out.size _
              have ZU : Hid (Blk u w4.heap.size #[.int .i64 0, .slice none 0 0, .slice none 0 0] 28) := by show Blk _ _ _ _; rw [hu]; exact Blk.new _ _ _
              have Bu0 : Hid (Below w4.heap.size w4 u) := by show Below _ _ _; rw [hu]; exact below_new _ _
              have AO : Hid (StOwn u W.heap.size g1 g2 bs ds ∧ RunOwn u W.heap.size g3 g4 xs ys) := ⟨stOwn_below AO.out.1 Bu0.out, AO.out.2.below Bu0.out⟩
              rw [← hu]
              refine hK.out _ _ (AF.out u BU.out) (fun hHa => ?_)
              clear hK K hu
              refine wpAnyH_ready (rs := [4]) (by kernel_rfl) (by simp) ?_
              refine AllReadyH.cons rfl (fun K hK => ?_) AllReadyH.nil
              go_simp
              refine Calls.mono (SC.out _ g1 g2 g3 g4 AO.out.1.2.2.2.1 AO.out.1.2.2.2.2.1 AO.out.2.2.2.2.1 AO.out.2.2.2.2.2.1) ?_
              rintro e w5 ⟨s1, s2, e1, e2, rfl, F5⟩
              have B5 : Hid (Below W.heap.size W w5) := BU.out.trans (F5.out.2.mono BU.out.size)
              have Z5 : Hid (Blk w5 w4.heap.size _ _) := ZU.out.keep F5.out.2
              refine hK.out _ _ (AF.out w5 B5.out) (fun hH2 => ?_)
              clear hK K
              refine wpAnyH_take (i := 5) (v := ?vaccac5) rfl (by kernel_rfl) (by kernel_rfl) (by kernel_rfl) (fun _ _ _ h => h) (Or.inl ⟨by rfl, ?yaccac5⟩) (by assumption) ?raccac5
              case yaccac5 =>
                intro w' hSw
                try dsimp only at hSw
                go_simp
                try with_reducible rfl
              simp only [Act.put, List.getElem_toArray, List.getElem_cons_succ, List.getElem_cons_zero, List.setIfInBounds_toArray, List.set_cons_zero, List.set_cons_succ]
              refine wpAnyH_take (i := 6) (v := ?vaccac6) rfl (by kernel_rfl) (by kernel_rfl) (by kernel_rfl) (fun _ _ _ h => h) (Or.inl ⟨by rfl, ?yaccac6⟩) (by assumption) ?raccac6
              case yaccac6 =>
                intro w' hSw
                try dsimp only at hSw
                go_simp
                try with_reducible rfl
              simp only [Act.put, List.getElem_toArray, List.getElem_cons_succ, List.getElem_cons_zero, List.setIfInBounds_toArray, List.set_cons_zero, List.set_cons_succ]
              refine wpAnyH_take (i := 7) (v := ?vaccac7) rfl (by kernel_rfl) (by kernel_rfl) (by kernel_rfl) (fun _ _ _ h => h) (Or.inl ⟨by rfl, ?yaccac7⟩) (by assumption) ?raccac7
              case yaccac7 =>
                intro w' hSw
                try dsimp only at hSw
                go_simp
                try with_reducible rfl
              simp only [Act.put, List.getElem_toArray, List.getElem_cons_succ, List.getElem_cons_zero, List.setIfInBounds_toArray, List.set_cons_zero, List.set_cons_succ]
              have S5 : Hid (StB bn dn W.heap.size w5 s1 s2) := F5.out.1.weaken BU.out.size
              have N5 : Hid ((∀ x, s1 = some x → x.block ≠ w4.heap.size) ∧ (∀ x, s2 = some x → x.block ≠ w4.heap.size)) := ⟨fun x e => by have := (F5.out.1.far1 x e).1; have := ZU.out.lt; omega, fun x e => by have := (F5.out.1.far2 x e).1; have := ZU.out.lt; omega⟩
              obtain ⟨z0, z1, z2⟩ := Z5.out.cells3
              have fz := Z5.out.frozen
              refine wpAnyH_ready (rs := [9]) (by kernel_rfl) (by simp) ?_
              refine AllReadyH.cons rfl (fun K hK => ?_) AllReadyH.nil
              go_simp
              have FI := FIN.out W w5 w4.heap.size s1 s2 e1 e2 B5.out Z5.out B4.out.size S5.out N5.out.1 N5.out.2 _ rfl
              refine hK.out _ _ (AF.out _ FI.2) (fun hH9 => ?_)
              clear hK K
              refine wpAnyH_take (i := 10) (v := ?vaccac10) rfl (by kernel_rfl) (by kernel_rfl) (by kernel_rfl) (fun _ _ _ h => h) (Or.inl ⟨by rfl, ?yaccac10⟩) (by assumption) ?raccac10
              case yaccac10 =>
                intro w' hSw
                try dsimp only at hSw
                go_simp
                try with_reducible rfl
              simp only [Act.put, List.getElem_toArray, List.getElem_cons_succ, List.getElem_cons_zero, List.setIfInBounds_toArray, List.set_cons_zero, List.set_cons_succ]
              refine wpAnyH_done (by kernel_rfl) ?_ _
              go_wp2_with fail
              go_meet
              exact ⟨_, s1, s2, e1, e2, rfl, rfl, FI.1, FI.2⟩
          · go_simp
            obtain ⟨u, hu⟩ : ∃ u, u = w3.alloc (.cells #[.int .i64 0, .slice none 0 0, .slice none 0 0] 28) := ⟨_, rfl⟩
            have BU : Hid (Below W.heap.size W u) := by show Below _ _ _; rw [hu]; exact B3.out.alloc B3.out.size _
            have ZU : Hid (Blk u w3.heap.size #[.int .i64 0, .slice none 0 0, .slice none 0 0] 28) := by show Blk _ _ _ _; rw [hu]; exact Blk.new _ _ _
            have Bu0 : Hid (Below w3.heap.size w3 u) := by show Below _ _ _; rw [hu]; exact below_new _ _
            have SOa : Hid (StOwn u W.heap.size g1 g2 bs ds) := stOwn_below SO.out Bu0.out
            rw [← hu]
            refine hK.out _ _ (AF.out u BU.out) (fun hHa => ?_)
            clear hK K hu
            refine wpAnyH_ready (rs := [3]) (by kernel_rfl) (by simp) ?_
            refine AllReadyH.cons rfl (fun K hK => ?_) AllReadyH.nil
            go_simp
            refine Calls.mono (TOE.out _ BU.out) ?_
            rintro e w4 ⟨g3, g4, rfl, F4⟩
            have B4 : Hid (Below W.heap.size W w4) := BU.out.trans (F4.out.2.mono BU.out.size)
            have AO : Hid (StOwn w4 W.heap.size g1 g2 bs ds ∧ RunOwn w4 W.heap.size g3 g4 xs ys) := ⟨stOwn_below SOa.out F4.out.2, ⟨Nat.le_trans BU.out.size F4.out.1.1, Nat.le_trans BU.out.size F4.out.1.2.1, F4.out.1.2.2⟩⟩
            have Z4 : Hid (Blk w4 w3.heap.size _ _) := ZU.out.keep F4.out.2
            refine hK.out _ _ (AF.out w4 B4.out) (fun hH1 => ?_)
            clear hK K
            refine wpAnyH_ready (rs := [4]) (by kernel_rfl) (by simp) ?_
            refine AllReadyH.cons rfl (fun K hK => ?_) AllReadyH.nil
            go_simp
            refine Calls.mono (SC.out _ g1 g2 g3 g4 AO.out.1.2.2.2.1 AO.out.1.2.2.2.2.1 AO.out.2.2.2.2.1 AO.out.2.2.2.2.2.1) ?_
            rintro e w5 ⟨s1, s2, e1, e2, rfl, F5⟩
            have B5 : Hid (Below W.heap.size W w5) := B4.out.trans (F5.out.2.mono B4.out.size)
            have Z5 : Hid (Blk w5 w3.heap.size _ _) := Z4.out.keep F5.out.2
            refine hK.out _ _ (AF.out w5 B5.out) (fun hH2 => ?_)
            clear hK K
            refine wpAnyH_take (i := 5) (v := ?vacacc5) rfl (by kernel_rfl) (by kernel_rfl) (by kernel_rfl) (fun _ _ _ h => h) (Or.inl ⟨by rfl, ?yacacc5⟩) (by assumption) ?racacc5
            case yacacc5 =>
              intro w' hSw
              try dsimp only at hSw
              go_simp
              try with_reducible rfl
            simp only [Act.put, List.getElem_toArray, List.getElem_cons_succ, List.getElem_cons_zero, List.setIfInBounds_toArray, List.set_cons_zero, List.set_cons_succ]
            refine wpAnyH_take (i := 6) (v := ?vacacc6) rfl (by kernel_rfl) (by kernel_rfl) (by kernel_rfl) (fun _ _ _ h => h) (Or.inl ⟨by rfl, ?yacacc6⟩) (by assumption) ?racacc6
            case yacacc6 =>
              intro w' hSw
              try dsimp only at hSw
              go_simp
              try with_reducible rfl
            simp only [Act.put, List.getElem_toArray, List.getElem_cons_succ, List.getElem_cons_zero, List.setIfInBounds_toArray, List.set_cons_zero, List.set_cons_succ]
            refine wpAnyH_take (i := 7) (v := ?vacacc7) rfl (by kernel_rfl) (by kernel_rfl) (by kernel_rfl) (fun _ _ _ h => h) (Or.inl ⟨by rfl, ?yacacc7⟩) (by assumption) ?racacc7
            case yacacc7 =>
              intro w' hSw
              try dsimp only at hSw
              go_simp
              try with_reducible rfl
            simp only [Act.put, List.getElem_toArray, List.getElem_cons_succ, List.getElem_cons_zero, List.setIfInBounds_toArray, List.set_cons_zero, List.set_cons_succ]
            have S5 : Hid (StB bn dn W.heap.size w5 s1 s2) := F5.out.1.weaken B4.out.size
            have N5 : Hid ((∀ x, s1 = some x → x.block ≠ w3.heap.size) ∧ (∀ x, s2 = some x → x.block ≠ w3.heap.size)) := ⟨fun x e => by have := (F5.out.1.far1 x e).1; have := Z4.out.lt; omega, fun x e => by have := (F5.out.1.far2 x e).1; have := Z4.out.lt; omega⟩
            obtain ⟨z0, z1, z2⟩ := Z5.out.cells3
            have fz := Z5.out.frozen
            refine wpAnyH_ready (rs := [9]) (by kernel_rfl) (by simp) ?_
            refine AllReadyH.cons rfl (fun K hK => ?_) AllReadyH.nil
            go_simp
            have FI := FIN.out W w5 w3.heap.size s1 s2 e1 e2 B5.out Z5.out B3.out.size S5.out N5.out.1 N5.out.2 _ rfl
            refine hK.out _ _ (AF.out _ FI.2) (fun hH9 => ?_)
            clear hK K
            refine wpAnyH_take (i := 10) (v := ?vacacc10) rfl (by kernel_rfl) (by kernel_rfl) (by kernel_rfl) (fun _ _ _ h => h) (Or.inl ⟨by rfl, ?yacacc10⟩) (by assumption) ?racacc10
            case yacacc10 =>
              intro w' hSw
              try dsimp only at hSw
              go_simp
              try with_reducible rfl
            simp only [Act.put, List.getElem_toArray, List.getElem_cons_succ, List.getElem_cons_zero, List.setIfInBounds_toArray, List.set_cons_zero, List.set_cons_succ]
            refine wpAnyH_done (by kernel_rfl) ?_ _
            go_wp2_with fail
            go_meet
            exact ⟨_, s1, s2, e1, e2, rfl, rfl, FI.1, FI.2⟩
        · go_simp
          obtain ⟨u, hu⟩ : ∃ u, u = (w2.alloc (.cells #[.int .i64 0, .slice none 0 0, .slice none 0 0] 28)).drew := ⟨_, rfl⟩
          have BU : Hid (Below W.heap.size W u) := by show Below _ _ _; rw [hu]; exact (B2.out.alloc B2.out.size _).drew
          have ZU : Hid (Blk u w2.heap.size #[.int .i64 0, .slice none 0 0, .slice none 0 0] 28) := by show Blk _ _ _ _; rw [hu]; exact Blk.new _ _ _
          rw [← hu]
          refine hK.out _ _ (AF.out u BU.out) (fun hHa => ?_)
          clear hK K hu
          refine wpAnyH_ready (rs := [1]) (by kernel_rfl) (by simp) ?_
          refine AllReadyH.cons rfl (fun K hK => ?_) AllReadyH.nil
          go_simp
          refine Calls.mono (TOS.out _ BU.out) ?_
          rintro e w3 ⟨g1, g2, rfl, F3⟩
          have B3 : Hid (Below W.heap.size W w3) := BU.out.trans (F3.out.2.mono BU.out.size)
          have SO : Hid (StOwn w3 W.heap.size g1 g2 bs ds) := ⟨Nat.le_trans BU.out.size F3.out.1.1, Nat.le_trans BU.out.size F3.out.1.2.1, F3.out.1.2.2⟩
          have Z3 : Hid (Blk w3 w2.heap.size _ _) := ZU.out.keep F3.out.2
          refine hK.out _ _ (AF.out w3 B3.out) (fun hH0 => ?_)
          clear hK K
          refine wpAnyH_ready (rs := [3]) (by kernel_rfl) (by simp) ?_
          refine AllReadyH.cons rfl (fun K hK => ?_) AllReadyH.nil
          go_simp
          refine Calls.mono (TOE.out _ B3.out) ?_
          rintro e w4 ⟨g3, g4, rfl, F4⟩
          have B4 : Hid (Below W.heap.size W w4) := B3.out.trans (F4.out.2.mono B3.out.size)
          have AO : Hid (StOwn w4 W.heap.size g1 g2 bs ds ∧ RunOwn w4 W.heap.size g3 g4 xs ys) := ⟨stOwn_below SO.out F4.out.2, ⟨Nat.le_trans B3.out.size F4.out.1.1, Nat.le_trans B3.out.size F4.out.1.2.1, F4.out.1.2.2⟩⟩
          have Z4 : Hid (Blk w4 w2.heap.size _ _) := Z3.out.keep F4.out.2
          refine hK.out _ _ (AF.out w4 B4.out) (fun hH1 => ?_)
          clear hK K
          refine wpAnyH_ready (rs := [4]) (by kernel_rfl) (by simp) ?_
          refine AllReadyH.cons rfl (fun K hK => ?_) AllReadyH.nil
          go_simp
          refine Calls.mono (SC.out _ g1 g2 g3 g4 AO.out.1.2.2.2.1 AO.out.1.2.2.2.2.1 AO.out.2.2.2.2.1 AO.out.2.2.2.2.2.1) ?_
          rintro e w5 ⟨s1, s2, e1, e2, rfl, F5⟩
          have B5 : Hid (Below W.heap.size W w5) := B4.out.trans (F5.out.2.mono B4.out.size)
          have Z5 : Hid (Blk w5 w2.heap.size _ _) := Z4.out.keep F5.out.2
          refine hK.out _ _ (AF.out w5 B5.out) (fun hH2 => ?_)
          clear hK K
          refine wpAnyH_take (i := 5) (v := ?vaaccc5) rfl (by kernel_rfl) (by kernel_rfl) (by kernel_rfl) (fun _ _ _ h => h) (Or.inl ⟨by rfl, ?yaaccc5⟩) (by assumption) ?raaccc5
          case yaaccc5 =>
            intro w' hSw
            try dsimp only at hSw
            go_simp
            try with_reducible rfl
          simp only [Act.put, List.getElem_toArray, List.getElem_cons_succ, List.getElem_cons_zero, List.setIfInBounds_toArray, List.set_cons_zero, List.set_cons_succ]
          refine wpAnyH_take (i := 6) (v := ?vaaccc6) rfl (by kernel_rfl) (by kernel_rfl) (by kernel_rfl) (fun _ _ _ h => h) (Or.inl ⟨by rfl, ?yaaccc6⟩) (by assumption) ?raaccc6
          case yaaccc6 =>
            intro w' hSw
            try dsimp only at hSw
            go_simp
            try with_reducible rfl
          simp only [Act.put, List.getElem_toArray, List.getElem_cons_succ, List.getElem_cons_zero, List.setIfInBounds_toArray, List.set_cons_zero, List.set_cons_succ]
          refine wpAnyH_take (i := 7) (v := ?vaaccc7) rfl (by kernel_rfl) (by kernel_rfl) (by kernel_rfl) (fun _ _ _ h => h) (Or.inl ⟨by rfl, ?yaaccc7⟩) (by assumption) ?raaccc7
          case yaaccc7 =>
            intro w' hSw
            try dsimp only at hSw
            go_simp
            try with_reducible rfl
          simp only [Act.put, List.getElem_toArray, List.getElem_cons_succ, List.getElem_cons_zero, List.setIfInBounds_toArray, List.set_cons_zero, List.set_cons_succ]
          have S5 : Hid (StB bn dn W.heap.size w5 s1 s2) := F5.out.1.weaken B4.out.size
          have N5 : Hid ((∀ x, s1 = some x → x.block ≠ w2.heap.size) ∧ (∀ x, s2 = some x → x.block ≠ w2.heap.size)) := ⟨fun x e => by have := (F5.out.1.far1 x e).1; have := Z4.out.lt; omega, fun x e => by have := (F5.out.1.far2 x e).1; have := Z4.out.lt; omega⟩
          obtain ⟨z0, z1, z2⟩ := Z5.out.cells3
          have fz := Z5.out.frozen
          refine wpAnyH_ready (rs := [9]) (by kernel_rfl) (by simp) ?_
          refine AllReadyH.cons rfl (fun K hK => ?_) AllReadyH.nil
          go_simp
          have FI := FIN.out W w5 w2.heap.size s1 s2 e1 e2 B5.out Z5.out BASE.out.size S5.out N5.out.1 N5.out.2 _ rfl
          refine hK.out _ _ (AF.out _ FI.2) (fun hH9 => ?_)
          clear hK K
          refine wpAnyH_take (i := 10) (v := ?vaaccc10) rfl (by kernel_rfl) (by kernel_rfl) (by kernel_rfl) (fun _ _ _ h => h) (Or.inl ⟨by rfl, ?yaaccc10⟩) (by assumption) ?raaccc10
          case yaaccc10 =>
            intro w' hSw
            try dsimp only at hSw
            go_simp
            try with_reducible rfl
          simp only [Act.put, List.getElem_toArray, List.getElem_cons_succ, List.getElem_cons_zero, List.setIfInBounds_toArray, List.set_cons_zero, List.set_cons_succ]
          refine wpAnyH_done (by kernel_rfl) ?_ _
          go_wp2_with fail
          go_meet
          exact ⟨_, s1, s2, e1, e2, rfl, rfl, FI.1, FI.2⟩
      case rest =>
        obtain ⟨g6, s1, s2, e1, e2, rfl, rfl, hans, hbc⟩ := hcut
        have BC : Hid (Below W.heap.size W wc) := hbc
        have A6 : Hid (AnsAt zz bn dn W.heap.size wc g6 s1 s2 e1 e2) := hans
        have hcn : (cc != cc) = false := by simp
        clear hans hbc p0 p1 p2 q0 q1 q2 q3 q4 q5 q6
        obtain ⟨⟨p0, p1, p2⟩, _⟩ := AF.out wc BC.out
        go_wp2_with fail
        refine Calls.mono (TOS.out wc BC.out) ?_
        rintro e w3 ⟨g1, g2, rfl, F3⟩
        obtain ⟨X, hX⟩ : ∃ X, X = w3.alloc (.cells #[.int .i64 z, .slice (some ⟨g1, 0, none⟩) bs.length bs.length, .slice (some ⟨g2, 0, none⟩) ds.length ds.length] 28) := ⟨_, rfl⟩
        have bX : Below wc.heap.size wc X := by rw [hX]; exact F3.out.2.alloc F3.out.2.size _
        have BX : Hid (Below W.heap.size W X) := BC.out.trans (bX.mono BC.out.size)
        have AX : Hid (AnsAt zz bn dn W.heap.size X g6 s1 s2 e1 e2) := A6.out.below bX
        have X0 : Hid (Blk X w3.heap.size #[.int .i64 z, .slice (some ⟨g1, 0, none⟩) bs.length bs.length, .slice (some ⟨g2, 0, none⟩) ds.length ds.length] 28 ∧ StOwn X wc.heap.size g1 g2 bs ds ∧ X.heap.size = w3.heap.size + 1) := by
          refine ⟨by rw [hX]; exact Blk.new _ _ _, ?_, by rw [hX]; simp⟩
          rw [hX]; exact stOwn_below F3.out.1 (below_new _ _)
        have HX : Hid (X = _) := hX
        clear hX bX p0 p1 p2
        obtain ⟨_, ⟨q0, q1, q2, q3, q4, q5, q6⟩⟩ := AF.out X BX.out
        go_upto_region 10 with fail
        rw [← HX.out]
        go_wp2_with fail
        refine Calls.mono (TOE.out X BX.out) ?_
        rintro e w4 ⟨g3, g4, rfl, F4⟩
        obtain ⟨Y, hY⟩ : ∃ Y, Y = w4.alloc (.cells #[.bool n, .int .i64 p, .int .i64 q, .slice (some ⟨g3, 0, none⟩) xs.length xs.length, .slice (some ⟨g4, 0, none⟩) ys.length ys.length, .int .i64 v, .int .i64 k] 48) := ⟨_, rfl⟩
        have bY : Below X.heap.size X Y := by rw [hY]; exact F4.out.2.alloc F4.out.2.size _
        have BY : Hid (Below W.heap.size W Y) := BX.out.trans (bY.mono BX.out.size)
        have AY : Hid (AnsAt zz bn dn W.heap.size Y g6 s1 s2 e1 e2) := AX.out.below bY
        have Y0 : Hid (Blk Y w3.heap.size #[.int .i64 z, .slice (some ⟨g1, 0, none⟩) bs.length bs.length, .slice (some ⟨g2, 0, none⟩) ds.length ds.length] 28 ∧ StOwn Y wc.heap.size g1 g2 bs ds) := ⟨X0.out.1.keep bY, stOwn_below X0.out.2.1 bY⟩
        have Y1 : Hid (Blk Y w4.heap.size #[.bool n, .int .i64 p, .int .i64 q, .slice (some ⟨g3, 0, none⟩) xs.length xs.length, .slice (some ⟨g4, 0, none⟩) ys.length ys.length, .int .i64 v, .int .i64 k] 48 ∧ RunOwn Y X.heap.size g3 g4 xs ys ∧ Y.heap.size = w4.heap.size + 1) := by
          refine ⟨by rw [hY]; exact Blk.new _ _ _, ?_, by rw [hY]; simp⟩
          rw [hY]; exact F4.out.1.below (below_new _ _)
        have HY : Hid (Y = _) := hY
        clear hY bY q0 q1 q2 q3 q4 q5 q6
        obtain ⟨x0, x1, x2⟩ := Y0.out.1.cells3
        obtain ⟨y0, y1, y2, y3, y4, y5, y6⟩ := Y1.out.1.cells7
        go_upto_region 11 with fail
        rw [← HY.out]
        go_wp2_with fail
        refine Calls.mono (IC.out Y g1 g2 g3 g4 BY.out Y0.out.2.2.2.2.1 Y0.out.2.2.2.2.2.1 Y1.out.2.1.2.2.2.1 Y1.out.2.1.2.2.2.2.1) ?_
        rintro e w5 ⟨s3, s4, e3, e4, rfl, F5⟩
        obtain ⟨Z, hZ⟩ : ∃ Z, Z = w5.alloc (.cells #[.int .i64 zz, .slice s3 bn.length e3, .slice s4 dn.length e4] 28) := ⟨_, rfl⟩
        have bZ : Below Y.heap.size Y Z := by rw [hZ]; exact F5.out.2.alloc F5.out.2.size _
        have BZ : Hid (Below W.heap.size W Z) := BY.out.trans (bZ.mono BY.out.size)
        have AZ : Hid (AnsAt zz bn dn W.heap.size Z g6 s1 s2 e1 e2) := AY.out.below bZ
        have Z0 : Hid (Blk Z w3.heap.size #[.int .i64 z, .slice (some ⟨g1, 0, none⟩) bs.length bs.length, .slice (some ⟨g2, 0, none⟩) ds.length ds.length] 28 ∧ StOwn Z wc.heap.size g1 g2 bs ds) := ⟨Y0.out.1.keep bZ, stOwn_below Y0.out.2 bZ⟩
        have Z1 : Hid (Blk Z w4.heap.size #[.bool n, .int .i64 p, .int .i64 q, .slice (some ⟨g3, 0, none⟩) xs.length xs.length, .slice (some ⟨g4, 0, none⟩) ys.length ys.length, .int .i64 v, .int .i64 k] 48 ∧ RunOwn Z X.heap.size g3 g4 xs ys) := ⟨Y1.out.1.keep bZ, Y1.out.2.1.below bZ⟩
        have A10 : Hid (AnsAt zz bn dn Y.heap.size Z w5.heap.size s3 s4 e3 e4) := by
          refine ⟨by rw [hZ]; exact Blk.new _ _ _, by rw [hZ]; exact F5.out.1.below (below_new _ _), F5.out.2.size, fun x e => ?_, fun x e => ?_⟩
          · have := (F5.out.1.far1 x e).2; omega
          · have := (F5.out.1.far2 x e).2; omega
        -- where everything lies
        have GEO : Hid (W.heap.size ≤ wc.heap.size ∧ g6 < wc.heap.size ∧ (∀ x, s1 = some x → x.block < wc.heap.size) ∧ (∀ x, s2 = some x → x.block < wc.heap.size) ∧ (wc.heap.size ≤ g1 ∧ g1 < w3.heap.size) ∧ (wc.heap.size ≤ g2 ∧ g2 < w3.heap.size) ∧ w3.heap.size < X.heap.size ∧ (X.heap.size ≤ g3 ∧ g3 < w4.heap.size) ∧ (X.heap.size ≤ g4 ∧ g4 < w4.heap.size) ∧ w4.heap.size < Y.heap.size ∧ (∀ x, s3 = some x → Y.heap.size ≤ x.block ∧ x.block < w5.heap.size) ∧ (∀ x, s4 = some x → Y.heap.size ≤ x.block ∧ x.block < w5.heap.size) ∧ Y.heap.size ≤ w5.heap.size) := by
          have a := F3.out.1
          have b := F4.out.1
          have c := X0.out.2.2
          have d := Y1.out.2.2
          exact ⟨BC.out.size, A6.out.1.lt, fun x e => (A6.out.2.1.far1 x e).2, fun x e => (A6.out.2.1.far2 x e).2, ⟨a.1, a.2.2.2.1.1⟩, ⟨a.2.1, a.2.2.2.2.1.1⟩, by omega, ⟨b.1, b.2.2.2.1.1⟩, ⟨b.2.1, b.2.2.2.2.1.1⟩, by omega, fun x e => F5.out.1.far1 x e, fun x e => F5.out.1.far2 x e, F5.out.2.size⟩
        have HZ : Hid (Z = _) := hZ
        clear hZ bZ x0 x1 x2 y0 y1 y2 y3 y4 y5 y6
        obtain ⟨t0, t1, t2⟩ := A10.out.1.cells3
        obtain ⟨u0, u1, u2⟩ := AZ.out.1.cells3
        have EQ : Hid (∀ (V : World) (a b c d : Option Addr) (n1 n2 n3 n4 : Nat), Sl V a bn → Sl4 V b dn → Sl V c bn → Sl4 V d dn → Calls Tryz.prog 22 #[.agg #[.int .i64 zz, .slice a bn.length n1, .slice b dn.length n2], .agg #[.int .i64 zz, .slice c bn.length n3, .slice d dn.length n4]] V fun e w' => e = .returned (.bool true) ∧ Below V.heap.size V w') := fun V a b c d n1 n2 n3 n4 q1 q2 q3 q4 =>
          eqState zz a b c d n1 n2 n3 n4 bn dn V q1 q2 q3 q4 (by have := LN.out.1; omega) (by have := LN.out.2; omega)
        go_upto_region 12 with fail
        rw [← HZ.out]
        go_wp2_with fail
        refine Calls.mono (EQ.out Z s3 s4 s1 s2 e3 e4 e1 e2 A10.out.2.1.boxes.sl A10.out.2.1.dones.sl AZ.out.2.1.boxes.sl AZ.out.2.1.dones.sl) ?_
        rintro e w6 ⟨rfl, hb⟩
        have C6 : Hid (Below Z.heap.size Z w6) := hb
        clear hb t0 t1 t2 u0 u1 u2
        obtain ⟨x0, x1, x2⟩ := (Z0.out.1.keep C6.out).cells3
        obtain ⟨⟨p0, p1, p2⟩, _⟩ := AF.out w6 (BZ.out.trans (C6.out.mono BZ.out.size))
        have D6 : Hid (Below W.heap.size W w6.drew) := (BZ.out.trans (C6.out.mono BZ.out.size)).drew
        go_upto_region 14 with fail
        go_cut [58] from 54 to 58 (fun c wx => c = .bool false ∧ Below Z.heap.size Z wx)
        case first =>
          go_region_with (first | (go_at_call 20; refine Calls.mono (TOS.out _ D6.out) ?_; rintro e w7 ⟨g7, g8, rfl, F7⟩; have C7' : Hid (Below Z.heap.size Z w7) := (C6.out.drew).trans (F7.out.2.mono C6.out.size); obtain ⟨r0, r1, r2⟩ := (Z0.out.1.keep C7'.out).cells3) | (go_at_call 22; refine (eqState z _ _ _ _ bs.length ds.length bs.length ds.length bs ds _ ?_ ?_ ?_ ?_ l1 l2).mono ?_; exact .inr ⟨_, _, rfl, (stOwn_below Z0.out.2 C7'.out).2.2.2.1⟩; exact .inr ⟨_, _, rfl, (stOwn_below Z0.out.2 C7'.out).2.2.2.2.1⟩; exact .inr ⟨_, _, rfl, F7.out.1.2.2.2.1⟩; exact .inr ⟨_, _, rfl, F7.out.1.2.2.2.2.1⟩; rintro e w8 ⟨rfl, b8⟩; have C8 : Hid (Below Z.heap.size Z w8) := C7'.out.trans (b8.mono C7'.out.size); clear b8))
          all_goals
            go_wp2_with fail
            go_meet
            exact ⟨rfl, C8.out⟩
        case rest =>
          obtain ⟨rfl, hb⟩ := hcut
          rename World => v1
          have C9 : Hid (Below Z.heap.size Z v1) := hb
          clear hb x0 x1 x2 p0 p1 p2
          obtain ⟨y0, y1, y2, y3, y4, y5, y6⟩ := (Z1.out.1.keep C9.out).cells7
          obtain ⟨_, ⟨q0, q1, q2, q3, q4, q5, q6⟩⟩ := AF.out v1 (BZ.out.trans (C9.out.mono BZ.out.size))
          have D9 : Hid (Below W.heap.size W v1.drew) := (BZ.out.trans (C9.out.mono BZ.out.size)).drew
          go_upto_region 16 with fail
          go_cut [63] from 59 to 63 (fun c wx => c = .bool false ∧ Below Z.heap.size Z wx)
          case first =>
            go_region_with (first | (go_at_call 21; refine Calls.mono (TOE.out _ D9.out) ?_; rintro e w7 ⟨g7, g8, rfl, F7⟩; have C7' : Hid (Below Z.heap.size Z w7) := (C9.out.drew).trans (F7.out.2.mono C9.out.size); obtain ⟨r0, r1, r2, r3, r4, r5, r6⟩ := (Z1.out.1.keep C7'.out).cells7) | (go_at_call 23; refine (eqEntry n p q _ _ _ _ xs.length ys.length xs.length ys.length xs ys v k _ ?_ ?_ ?_ ?_ l3 l4).mono ?_; exact .inr ⟨_, _, rfl, (Z1.out.2.below C7'.out).2.2.2.1⟩; exact .inr ⟨_, _, rfl, (Z1.out.2.below C7'.out).2.2.2.2.1⟩; exact .inr ⟨_, _, rfl, F7.out.1.2.2.2.1⟩; exact .inr ⟨_, _, rfl, F7.out.1.2.2.2.2.1⟩; rintro e w8 ⟨rfl, b8⟩; have C8 : Hid (Below Z.heap.size Z w8) := C7'.out.trans (b8.mono C7'.out.size); clear b8))
            all_goals
              go_wp2_with fail
              go_meet
              exact ⟨rfl, C8.out⟩
          case rest =>
            obtain ⟨rfl, hb⟩ := hcut
            rename World => v2
            have C10 : Hid (Below Z.heap.size Z v2) := hb
            clear hb y0 y1 y2 y3 y4 y5 y6 q0 q1 q2 q3 q4 q5 q6
            have BV2 : Hid (Below W.heap.size W v2) := BZ.out.trans (C10.out.mono BZ.out.size)
            have M0 : Hid (Blk v2 w3.heap.size #[.int .i64 z, .slice (some ⟨g1, 0, none⟩) bs.length bs.length, .slice (some ⟨g2, 0, none⟩) ds.length ds.length] 28 ∧ StOwn v2 wc.heap.size g1 g2 bs ds) := ⟨Z0.out.1.keep C10.out, stOwn_below Z0.out.2 C10.out⟩
            have M1 : Hid (Blk v2 w4.heap.size #[.bool n, .int .i64 p, .int .i64 q, .slice (some ⟨g3, 0, none⟩) xs.length xs.length, .slice (some ⟨g4, 0, none⟩) ys.length ys.length, .int .i64 v, .int .i64 k] 48 ∧ RunOwn v2 X.heap.size g3 g4 xs ys) := ⟨Z1.out.1.keep C10.out, Z1.out.2.below C10.out⟩
            have M6 : Hid (AnsAt zz bn dn W.heap.size v2 g6 s1 s2 e1 e2) := AZ.out.below C10.out
            have M10 : Hid (AnsAt zz bn dn Y.heap.size v2 w5.heap.size s3 s4 e3 e4) := A10.out.below C10.out
            obtain ⟨x0, x1, x2⟩ := M0.out.1.cells3
            go_wp2_with fail
            refine (markStB z (some ⟨g1, 0, none⟩) (some ⟨g2, 0, none⟩) bs.length ds.length bs.length ds.length wc.heap.size bs ds 1 [g1, g2] v2 (stOwn_stB M0.out.2) rfl rfl (by omega) (by omega) (by decide) (by decide) (fun x e => by injection e with e; subst e; simp) (fun x e => by injection e with e; subst e; simp)).mono ?_
            rintro e w7 ⟨rfl, _, ht⟩
            have T7 : Hid (Turned [g1, g2] v2 w7) := ht
            have BV7 : Hid (Below W.heap.size W w7) := by
              obtain ⟨ga, gb, gc, gd, ge, gf, gg, gh, gi, gj, gk, gl, gm⟩ := GEO.out
              exact BV2.out.trans (ht.below (fun x hx => by simp at hx; omega) BV2.out.size)
            have N6 : Hid (AnsAt zz bn dn W.heap.size w7 g6 s1 s2 e1 e2) := by
              obtain ⟨ga, gb, gc, gd, ge, gf, gg, gh, gi, gj, gk, gl, gm⟩ := GEO.out
              exact M6.out.turned ht (by simp; omega) (fun x e => by have := gc x e; simp; omega) (fun x e => by have := gd x e; simp; omega)
            have N10 : Hid (AnsAt zz bn dn Y.heap.size w7 w5.heap.size s3 s4 e3 e4) := by
              obtain ⟨ga, gb, gc, gd, ge, gf, gg, gh, gi, gj, gk, gl, gm⟩ := GEO.out
              exact M10.out.turned ht (by simp; omega) (fun x e => by have := gk x e; simp; omega) (fun x e => by have := gl x e; simp; omega)
            have N1 : Hid (Blk w7 w4.heap.size #[.bool n, .int .i64 p, .int .i64 q, .slice (some ⟨g3, 0, none⟩) xs.length xs.length, .slice (some ⟨g4, 0, none⟩) ys.length ys.length, .int .i64 v, .int .i64 k] 48 ∧ OwnB w7 X.heap.size (some ⟨g3, 0, none⟩) xs ∧ OwnB w7 X.heap.size (some ⟨g4, 0, none⟩) ys ∧ g3 ≠ g4) := by
              obtain ⟨ga, gb, gc, gd, ge, gf, gg, gh, gi, gj, gk, gl, gm⟩ := GEO.out
              obtain ⟨ra, rb, rc, rd, re, rf, rg⟩ := M1.out.2
              have o3 : OwnB v2 X.heap.size (some ⟨g3, 0, none⟩) xs := .inr ⟨g3, rfl, ra, rd, rf.frz⟩
              have o4 : OwnB v2 X.heap.size (some ⟨g4, 0, none⟩) ys := .inr ⟨g4, rfl, rb, re, rg.frz⟩
              exact ⟨M1.out.1.turned' ht (by simp; omega), o3.turned ht (fun g e => by injection e with e; injection e with e; simp; omega), o4.turned ht (fun g e => by injection e with e; injection e with e; simp; omega), rc⟩
            clear ht x0 x1 x2
            obtain ⟨y0, y1, y2, y3, y4, y5, y6⟩ := N1.out.1.cells7
            go_wp2_with fail
            refine (markEntB n p q (some ⟨g3, 0, none⟩) (some ⟨g4, 0, none⟩) xs.length ys.length xs.length ys.length X.heap.size xs ys v k (1 + 2 * (bs.length : Int) + 4 * (ds.length : Int)) [g3, g4] w7 N1.out.2.1 N1.out.2.2.1 (.inr (.inr (fun g g' e e' => by injection e with e; injection e with e; injection e' with e'; injection e' with e'; have := N1.out.2.2.2; omega))) rfl rfl (by omega) (by omega) (by omega) (by omega) (fun g e => by injection e with e; injection e with e; simp [e]) (fun g e => by injection e with e; injection e with e; simp [e])).mono ?_
            rintro e w8 ⟨rfl, ht⟩
            have BV8 : Hid (Below W.heap.size W w8) := by
              obtain ⟨ga, gb, gc, gd, ge, gf, gg, gh, gi, gj, gk, gl, gm⟩ := GEO.out
              exact BV7.out.trans (ht.below (fun x hx => by simp at hx; omega) BV7.out.size)
            have O6 : Hid (AnsAt zz bn dn W.heap.size w8 g6 s1 s2 e1 e2) := by
              obtain ⟨ga, gb, gc, gd, ge, gf, gg, gh, gi, gj, gk, gl, gm⟩ := GEO.out
              exact N6.out.turned ht (by simp; omega) (fun x e => by have := gc x e; simp; omega) (fun x e => by have := gd x e; simp; omega)
            have O10 : Hid (AnsAt zz bn dn Y.heap.size w8 w5.heap.size s3 s4 e3 e4) := by
              obtain ⟨ga, gb, gc, gd, ge, gf, gg, gh, gi, gj, gk, gl, gm⟩ := GEO.out
              exact N10.out.turned ht (by simp; omega) (fun x e => by have := gk x e; simp; omega) (fun x e => by have := gl x e; simp; omega)
            have hkp : ¬ (1 : Int) + 2 * (bs.length : Int) + 4 * (ds.length : Int) + 2 * (xs.length : Int) + 2 * (ys.length : Int) < 0 := by omega
            clear ht y0 y1 y2 y3 y4 y5 y6
            obtain ⟨t0, t1, t2⟩ := O10.out.1.cells3
            obtain ⟨u0, u1, u2⟩ := O6.out.1.cells3
            go_wp2_with fail
            refine (EQ.out w8 s3 s4 s1 s2 e3 e4 e1 e2 O10.out.2.1.boxes.sl O10.out.2.1.dones.sl O6.out.2.1.boxes.sl O6.out.2.1.dones.sl).mono ?_
            rintro e w9 ⟨rfl, hb⟩
            have BV9 : Hid (Below W.heap.size W w9) := BV8.out.trans (hb.mono BV8.out.size)
            have Q6 : Hid (AnsAt zz bn dn W.heap.size w9 g6 s1 s2 e1 e2) := O6.out.below hb
            have Q10 : Hid (AnsAt zz bn dn Y.heap.size w9 w5.heap.size s3 s4 e3 e4) := O10.out.below hb
            clear hb t0 t1 t2 u0 u1 u2 hkp
            obtain ⟨t0, t1, t2⟩ := Q10.out.1.cells3
            obtain ⟨LL, hLL⟩ : ∃ LL : List Nat, LL = (s3.toList ++ s4.toList).map (·.block) := ⟨_, rfl⟩
            have HLL : Hid (∀ x, x ∈ LL → Y.heap.size ≤ x ∧ x < w5.heap.size) := fun x hx => by
              obtain ⟨ga, gb, gc, gd, ge, gf, gg, gh, gi, gj, gk, gl, gm⟩ := GEO.out
              rw [hLL] at hx
              simp at hx
              rcases hx with ⟨y, hy, rfl⟩ | ⟨y, hy, rfl⟩
              · exact gk y hy
              · exact gl y hy
            have HL3 : Hid ((∀ x, s3 = some x → x.block ∈ LL) ∧ (∀ x, s4 = some x → x.block ∈ LL)) := ⟨fun x e => by rw [hLL, e]; simp, fun x e => by rw [hLL, e]; simp⟩
            have lb : bn.length ≤ 2 ^ 30 := by have := LN.out.1; omega
            have ld : dn.length ≤ 2 ^ 30 := by have := LN.out.2; omega
            clear hLL
            go_wp2_with fail
            refine (markStB zz s3 s4 bn.length dn.length e3 e4 Y.heap.size bn dn 1 LL w9 Q10.out.2.1 rfl rfl lb ld (by decide) (by decide) HL3.out.1 HL3.out.2).mono ?_
            rintro e w10 ⟨rfl, hs, ht⟩
            have BV10 : Hid (Below W.heap.size W w10) := by
              obtain ⟨ga, gb, gc, gd, ge, gf, gg, gh, gi, gj, gk, gl, gm⟩ := GEO.out
              exact BV9.out.trans (ht.below (fun x hx => by have := HLL.out x hx; omega) BV9.out.size)
            have R6 : Hid (AnsAt zz bn dn W.heap.size w10 g6 s1 s2 e1 e2) := by
              obtain ⟨ga, gb, gc, gd, ge, gf, gg, gh, gi, gj, gk, gl, gm⟩ := GEO.out
              exact Q6.out.turned ht (fun hx => by have := HLL.out _ hx; omega) (fun x e hx => by have := HLL.out _ hx; have := gc x e; omega) (fun x e hx => by have := HLL.out _ hx; have := gd x e; omega)
            have R10 : Hid (Blk w10 w5.heap.size #[.int .i64 zz, .slice s3 bn.length e3, .slice s4 dn.length e4] 28 ∧ StB (marks 1 bn.length) (marks4 (1 + 2 * bn.length) dn.length) Y.heap.size w10 s3 s4) := ⟨Q10.out.1.turned' ht (fun hx => by have := HLL.out _ hx; omega), hs⟩
            clear hs ht t0 t1 t2
            obtain ⟨t0, t1, t2⟩ := R10.out.1.cells3
            go_wp2_with fail
            refine (heldStB zz s3 s4 bn.length dn.length e3 e4 Y.heap.size 1 w10 R10.out.2 lb ld (by decide) (by decide)).mono ?_
            rintro e w11 ⟨rfl, hb⟩
            have BV11 : Hid (Below W.heap.size W w11) := BV10.out.trans (hb.mono BV10.out.size)
            have U6 : Hid (AnsAt zz bn dn W.heap.size w11 g6 s1 s2 e1 e2) := R6.out.below hb
            have U10 : Hid (Blk w11 w5.heap.size #[.int .i64 zz, .slice s3 bn.length e3, .slice s4 dn.length e4] 28 ∧ StB (marks 1 bn.length) (marks4 (1 + 2 * bn.length) dn.length) Y.heap.size w11 s3 s4) := ⟨R10.out.1.keep hb, R10.out.2.below hb⟩
            have hmp : ¬ (1 : Int) + 2 * (bn.length : Int) + 4 * (dn.length : Int) < 0 := by omega
            clear hb t0 t1 t2
            obtain ⟨⟨p0, p1, p2⟩, ⟨q0, q1, q2, q3, q4, q5, q6⟩⟩ := AF.out w11 BV11.out
            -- once more, and what the first answer holds stays
            have AFb : Hid (∀ V, Below w11.heap.size w11 V → (V.cell? ⟨w.heap.size, 0, none⟩ = some (.int .i64 z) ∧ V.cell? ⟨w.heap.size, 1, none⟩ = some (.slice a1 bs.length c1) ∧ V.cell? ⟨w.heap.size, 2, none⟩ = some (.slice a2 ds.length c2)) ∧ (V.cell? ⟨w.heap.size + 1, 0, none⟩ = some (.bool n) ∧ V.cell? ⟨w.heap.size + 1, 1, none⟩ = some (.int .i64 p) ∧ V.cell? ⟨w.heap.size + 1, 2, none⟩ = some (.int .i64 q) ∧ V.cell? ⟨w.heap.size + 1, 3, none⟩ = some (.slice b1 xs.length d1) ∧ V.cell? ⟨w.heap.size + 1, 4, none⟩ = some (.slice b2 ys.length d2) ∧ V.cell? ⟨w.heap.size + 1, 5, none⟩ = some (.int .i64 v) ∧ V.cell? ⟨w.heap.size + 1, 6, none⟩ = some (.int .i64 k))) := fun V hV => AF.out V (BV11.out.trans (hV.mono BV11.out.size))
            have TOSb : Hid (∀ V, Below w11.heap.size w11 V → Calls Tryz.prog 20 #[.agg #[.int .i64 z, .slice a1 bs.length c1, .slice a2 ds.length c2]] V fun e w' => ∃ g1 g2, e = .returned (.agg #[.int .i64 z, .slice (some ⟨g1, 0, none⟩) bs.length bs.length, .slice (some ⟨g2, 0, none⟩) ds.length ds.length]) ∧ Hid (StOwn w' V.heap.size g1 g2 bs ds ∧ Below V.heap.size V w')) := fun V hV => TOS.out V (BV11.out.trans (hV.mono BV11.out.size))
            have TOEb : Hid (∀ V, Below w11.heap.size w11 V → Calls Tryz.prog 21 #[.agg #[.bool n, .int .i64 p, .int .i64 q, .slice b1 xs.length d1, .slice b2 ys.length d2, .int .i64 v, .int .i64 k]] V fun e w' => ∃ g1 g2, e = .returned (.agg #[.bool n, .int .i64 p, .int .i64 q, .slice (some ⟨g1, 0, none⟩) xs.length xs.length, .slice (some ⟨g2, 0, none⟩) ys.length ys.length, .int .i64 v, .int .i64 k]) ∧ Hid (RunOwn w' V.heap.size g1 g2 xs ys ∧ Below V.heap.size V w')) := fun V hV => TOE.out V (BV11.out.trans (hV.mono BV11.out.size))
            have ICb : Hid (∀ (V : World) (g1 g2 g3 g4 : Nat), Below w11.heap.size w11 V → BoxAt V g1 0 bs → At4 V g2 0 ds → BoxAt V g3 0 xs → BoxAt V g4 0 ys → Calls Tryz.prog 14 #[.agg #[.int .i64 z, .slice (some ⟨g1, 0, none⟩) bs.length bs.length, .slice (some ⟨g2, 0, none⟩) ds.length ds.length], .agg #[.bool n, .int .i64 p, .int .i64 q, .slice (some ⟨g3, 0, none⟩) xs.length xs.length, .slice (some ⟨g4, 0, none⟩) ys.length ys.length, .int .i64 v, .int .i64 k]] V
                fun e w' => ∃ s1 s2 e1 e2, e = .returned (.tuple #[.agg #[.int .i64 zz, .slice s1 bn.length e1, .slice s2 dn.length e2], .int .i64 cc]) ∧ Hid (StB bn dn V.heap.size w' s1 s2 ∧ Below V.heap.size V w')) := fun V g1 g2 g3 g4 hV => IC.out V g1 g2 g3 g4 (BV11.out.trans (hV.mono BV11.out.size))
            go_upto_region 31 with fail
            go_cut [15, 16] from 94 to 101 (fun pp c wx => ∃ g s1 s2 e1 e2, pp = .pointer (some ⟨g, 0, none⟩) ∧ c = .int .i64 cc ∧ AnsAt zz bn dn w11.heap.size wx g s1 s2 e1 e2 ∧ Below w11.heap.size w11 wx)
            case first =>
              have BASE : Hid (Below w11.heap.size w11 w11) := (Below.refl w11.heap.size w11)
              have BD0 : Hid (Below w11.heap.size w11 w11.drew) := (Below.refl w11.heap.size w11).drew
              refine wp_region_held_drew (S := (fun w' : World => (w'.cell? ⟨w.heap.size, 0, none⟩ = some (.int .i64 z) ∧ w'.cell? ⟨w.heap.size, 1, none⟩ = some (.slice a1 bs.length c1) ∧ w'.cell? ⟨w.heap.size, 2, none⟩ = some (.slice a2 ds.length c2)) ∧ (w'.cell? ⟨w.heap.size + 1, 0, none⟩ = some (.bool n) ∧ w'.cell? ⟨w.heap.size + 1, 1, none⟩ = some (.int .i64 p) ∧ w'.cell? ⟨w.heap.size + 1, 2, none⟩ = some (.int .i64 q) ∧ w'.cell? ⟨w.heap.size + 1, 3, none⟩ = some (.slice b1 xs.length d1) ∧ w'.cell? ⟨w.heap.size + 1, 4, none⟩ = some (.slice b2 ys.length d2) ∧ w'.cell? ⟨w.heap.size + 1, 5, none⟩ = some (.int .i64 v) ∧ w'.cell? ⟨w.heap.size + 1, 6, none⟩ = some (.int .i64 k)))) (by kernel_rfl) (AFb.out w11.drew BD0.out) (fun hHeld => ?_)
              refine wpAnyH_take (i := 0) (v := ?vbx0) rfl (by kernel_rfl) (by kernel_rfl) (by kernel_rfl) (fun _ _ _ h => h) (Or.inl ⟨by rfl, ?ybx0⟩) (by assumption) ?rbx0
              case ybx0 =>
                intro w' hSw
                try dsimp only at hSw
                go_simp
                try with_reducible rfl
              simp only [Act.put, List.getElem_toArray, List.getElem_cons_succ, List.getElem_cons_zero, List.setIfInBounds_toArray, List.set_cons_zero, List.set_cons_succ]
              refine wpAnyH_take (i := 2) (v := ?vbx2) rfl (by kernel_rfl) (by kernel_rfl) (by kernel_rfl) (fun _ _ _ h => h) (Or.inl ⟨by rfl, ?ybx2⟩) (by assumption) ?rbx2
              case ybx2 =>
                intro w' hSw
                try dsimp only at hSw
                go_simp
                try with_reducible rfl
              simp only [Act.put, List.getElem_toArray, List.getElem_cons_succ, List.getElem_cons_zero, List.setIfInBounds_toArray, List.set_cons_zero, List.set_cons_succ]
              refine wpAnyH_ready (rs := [1, 8]) (by kernel_rfl) (by simp) ?_
              refine AllReadyH.cons rfl (fun K hK => ?_) (AllReadyH.cons rfl (fun K hK => ?_) AllReadyH.nil)
              · go_simp
                refine Calls.mono (TOSb.out _ BD0.out) ?_
                rintro e w3 ⟨g1, g2, rfl, F3⟩
                have B3 : Hid (Below w11.heap.size w11 w3) := BD0.out.trans (F3.out.2.mono BD0.out.size)
                have SO : Hid (StOwn w3 w11.heap.size g1 g2 bs ds) := ⟨Nat.le_trans BD0.out.size F3.out.1.1, Nat.le_trans BD0.out.size F3.out.1.2.1, F3.out.1.2.2⟩
                refine hK.out _ _ (AFb.out w3 B3.out) (fun hH0 => ?_)
                clear hK K
                refine wpAnyH_ready (rs := [3, 8]) (by kernel_rfl) (by simp) ?_
                refine AllReadyH.cons rfl (fun K hK => ?_) (AllReadyH.cons rfl (fun K hK => ?_) AllReadyH.nil)
                · go_simp
                  refine Calls.mono (TOEb.out _ B3.out) ?_
                  rintro e w4 ⟨g3, g4, rfl, F4⟩
                  have B4 : Hid (Below w11.heap.size w11 w4) := B3.out.trans (F4.out.2.mono B3.out.size)
                  have AO : Hid (StOwn w4 w11.heap.size g1 g2 bs ds ∧ RunOwn w4 w11.heap.size g3 g4 xs ys) := ⟨stOwn_below SO.out F4.out.2, ⟨Nat.le_trans B3.out.size F4.out.1.1, Nat.le_trans B3.out.size F4.out.1.2.1, F4.out.1.2.2⟩⟩
                  refine hK.out _ _ (AFb.out w4 B4.out) (fun hH1 => ?_)
                  clear hK K
                  refine wpAnyH_ready (rs := [4, 8]) (by kernel_rfl) (by simp) ?_
                  refine AllReadyH.cons rfl (fun K hK => ?_) (AllReadyH.cons rfl (fun K hK => ?_) AllReadyH.nil)
                  · go_simp
                    refine Calls.mono (ICb.out _ g1 g2 g3 g4 B4.out AO.out.1.2.2.2.1 AO.out.1.2.2.2.2.1 AO.out.2.2.2.2.1 AO.out.2.2.2.2.2.1) ?_
                    rintro e w5 ⟨s1, s2, e1, e2, rfl, F5⟩
                    have B5 : Hid (Below w11.heap.size w11 w5) := B4.out.trans (F5.out.2.mono B4.out.size)
                    refine hK.out _ _ (AFb.out w5 B5.out) (fun hH2 => ?_)
                    clear hK K
                    refine wpAnyH_take (i := 5) (v := ?vbccc5) rfl (by kernel_rfl) (by kernel_rfl) (by kernel_rfl) (fun _ _ _ h => h) (Or.inl ⟨by rfl, ?ybccc5⟩) (by assumption) ?rbccc5
                    case ybccc5 =>
                      intro w' hSw
                      try dsimp only at hSw
                      go_simp
                      try with_reducible rfl
                    simp only [Act.put, List.getElem_toArray, List.getElem_cons_succ, List.getElem_cons_zero, List.setIfInBounds_toArray, List.set_cons_zero, List.set_cons_succ]
                    refine wpAnyH_take (i := 6) (v := ?vbccc6) rfl (by kernel_rfl) (by kernel_rfl) (by kernel_rfl) (fun _ _ _ h => h) (Or.inl ⟨by rfl, ?ybccc6⟩) (by assumption) ?rbccc6
                    case ybccc6 =>
                      intro w' hSw
                      try dsimp only at hSw
                      go_simp
                      try with_reducible rfl
                    simp only [Act.put, List.getElem_toArray, List.getElem_cons_succ, List.getElem_cons_zero, List.setIfInBounds_toArray, List.set_cons_zero, List.set_cons_succ]
                    refine wpAnyH_take (i := 7) (v := ?vbccc7) rfl (by kernel_rfl) (by kernel_rfl) (by kernel_rfl) (fun _ _ _ h => h) (Or.inl ⟨by rfl, ?ybccc7⟩) (by assumption) ?rbccc7
                    case ybccc7 =>
                      intro w' hSw
                      try dsimp only at hSw
                      go_simp
                      try with_reducible rfl
                    simp only [Act.put, List.getElem_toArray, List.getElem_cons_succ, List.getElem_cons_zero, List.setIfInBounds_toArray, List.set_cons_zero, List.set_cons_succ]
                    refine wpAnyH_ready (rs := [8]) (by kernel_rfl) (by simp) ?_
                    refine AllReadyH.cons rfl (fun K hK => ?_) AllReadyH.nil
                    go_simp
                    obtain ⟨u, hu⟩ : ∃ u, u = w5.alloc (.cells #[.int .i64 0, .slice none 0 0, .slice none 0 0] 28) := ⟨_, rfl⟩
                    have BU : Hid (Below w11.heap.size w11 u) := by show Below _ _ _; rw [hu]; exact B5.out.alloc B5.out.size _
                    have ZU : Hid (Blk u w5.heap.size #[.int .i64 0, .slice none 0 0, .slice none 0 0] 28) := by show Blk _ _ _ _; rw [hu]; exact Blk.new _ _ _
                    have Bu0 : Hid (Below w5.heap.size w5 u) := by show Below _ _ _; rw [hu]; exact below_new _ _
                    rw [← hu]
                    refine hK.out _ _ (AFb.out u BU.out) (fun hHa => ?_)
                    clear hK K hu
                    have S5 : Hid (StB bn dn w11.heap.size u s1 s2) := (F5.out.1.below Bu0.out).weaken B4.out.size
                    have N5 : Hid ((∀ x, s1 = some x → x.block ≠ w5.heap.size) ∧ (∀ x, s2 = some x → x.block ≠ w5.heap.size)) := ⟨fun x e => by have := (F5.out.1.far1 x e).2; omega, fun x e => by have := (F5.out.1.far2 x e).2; omega⟩
                    obtain ⟨z0, z1, z2⟩ := ZU.out.cells3
                    have fz := ZU.out.frozen
                    refine wpAnyH_ready (rs := [9]) (by kernel_rfl) (by simp) ?_
                    refine AllReadyH.cons rfl (fun K hK => ?_) AllReadyH.nil
                    go_simp
                    have FI := FIN.out w11 u w5.heap.size s1 s2 e1 e2 BU.out ZU.out B5.out.size S5.out N5.out.1 N5.out.2 _ rfl
                    refine hK.out _ _ (AFb.out _ FI.2) (fun hH9 => ?_)
                    clear hK K
                    refine wpAnyH_take (i := 10) (v := ?vbccca10) rfl (by kernel_rfl) (by kernel_rfl) (by kernel_rfl) (fun _ _ _ h => h) (Or.inl ⟨by rfl, ?ybccca10⟩) (by assumption) ?rbccca10
                    case ybccca10 =>
                      intro w' hSw
                      try dsimp only at hSw
                      go_simp
                      try with_reducible rfl
                    simp only [Act.put, List.getElem_toArray, List.getElem_cons_succ, List.getElem_cons_zero, List.setIfInBounds_toArray, List.set_cons_zero, List.set_cons_succ]
                    refine wpAnyH_done (by kernel_rfl) ?_ _
                    go_wp2_with fail
                    go_meet
                    exact ⟨_, s1, s2, e1, e2, rfl, rfl, FI.1, FI.2⟩
                  · go_simp
                    obtain ⟨u, hu⟩ : ∃ u, u = w4.alloc (.cells #[.int .i64 0, .slice none 0 0, .slice none 0 0] 28) := ⟨_, rfl⟩
                    have BU : Hid (Below w11.heap.size w11 u) := by show Below _ _ _; rw [hu]; exact B4.out.alloc B4.out.size _
                    have ZU : Hid (Blk u w4.heap.size #[.int .i64 0, .slice none 0 0, .slice none 0 0] 28) := by show Blk _ _ _ _; rw [hu]; exact Blk.new _ _ _
                    have Bu0 : Hid (Below w4.heap.size w4 u) := by show Below _ _ _; rw [hu]; exact below_new _ _
                    have AO : Hid (StOwn u w11.heap.size g1 g2 bs ds ∧ RunOwn u w11.heap.size g3 g4 xs ys) := ⟨stOwn_below AO.out.1 Bu0.out, AO.out.2.below Bu0.out⟩
                    rw [← hu]
                    refine hK.out _ _ (AFb.out u BU.out) (fun hHa => ?_)
                    clear hK K hu
                    refine wpAnyH_ready (rs := [4]) (by kernel_rfl) (by simp) ?_
                    refine AllReadyH.cons rfl (fun K hK => ?_) AllReadyH.nil
                    go_simp
                    refine Calls.mono (ICb.out _ g1 g2 g3 g4 BU.out AO.out.1.2.2.2.1 AO.out.1.2.2.2.2.1 AO.out.2.2.2.2.1 AO.out.2.2.2.2.2.1) ?_
                    rintro e w5 ⟨s1, s2, e1, e2, rfl, F5⟩
                    have B5 : Hid (Below w11.heap.size w11 w5) := BU.out.trans (F5.out.2.mono BU.out.size)
                    have Z5 : Hid (Blk w5 w4.heap.size _ _) := ZU.out.keep F5.out.2
                    refine hK.out _ _ (AFb.out w5 B5.out) (fun hH2 => ?_)
                    clear hK K
                    refine wpAnyH_take (i := 5) (v := ?vbccac5) rfl (by kernel_rfl) (by kernel_rfl) (by kernel_rfl) (fun _ _ _ h => h) (Or.inl ⟨by rfl, ?ybccac5⟩) (by assumption) ?rbccac5
                    case ybccac5 =>
                      intro w' hSw
                      try dsimp only at hSw
                      go_simp
                      try with_reducible rfl
                    simp only [Act.put, List.getElem_toArray, List.getElem_cons_succ, List.getElem_cons_zero, List.setIfInBounds_toArray, List.set_cons_zero, List.set_cons_succ]
                    refine wpAnyH_take (i := 6) (v := ?vbccac6) rfl (by kernel_rfl) (by kernel_rfl) (by kernel_rfl) (fun _ _ _ h => h) (Or.inl ⟨by rfl, ?ybccac6⟩) (by assumption) ?rbccac6
                    case ybccac6 =>
                      intro w' hSw
                      try dsimp only at hSw
                      go_simp
                      try with_reducible rfl
                    simp only [Act.put, List.getElem_toArray, List.getElem_cons_succ, List.getElem_cons_zero, List.setIfInBounds_toArray, List.set_cons_zero, List.set_cons_succ]
                    refine wpAnyH_take (i := 7) (v := ?vbccac7) rfl (by kernel_rfl) (by kernel_rfl) (by kernel_rfl) (fun _ _ _ h => h) (Or.inl ⟨by rfl, ?ybccac7⟩) (by assumption) ?rbccac7
                    case ybccac7 =>
                      intro w' hSw
                      try dsimp only at hSw
                      go_simp
                      try with_reducible rfl
                    simp only [Act.put, List.getElem_toArray, List.getElem_cons_succ, List.getElem_cons_zero, List.setIfInBounds_toArray, List.set_cons_zero, List.set_cons_succ]
                    have S5 : Hid (StB bn dn w11.heap.size w5 s1 s2) := F5.out.1.weaken BU.out.size
                    have N5 : Hid ((∀ x, s1 = some x → x.block ≠ w4.heap.size) ∧ (∀ x, s2 = some x → x.block ≠ w4.heap.size)) := ⟨fun x e => by have := (F5.out.1.far1 x e).1; have := ZU.out.lt; omega, fun x e => by have := (F5.out.1.far2 x e).1; have := ZU.out.lt; omega⟩
                    obtain ⟨z0, z1, z2⟩ := Z5.out.cells3
                    have fz := Z5.out.frozen
                    refine wpAnyH_ready (rs := [9]) (by kernel_rfl) (by simp) ?_
                    refine AllReadyH.cons rfl (fun K hK => ?_) AllReadyH.nil
                    go_simp
                    have FI := FIN.out w11 w5 w4.heap.size s1 s2 e1 e2 B5.out Z5.out B4.out.size S5.out N5.out.1 N5.out.2 _ rfl
                    refine hK.out _ _ (AFb.out _ FI.2) (fun hH9 => ?_)
                    clear hK K
                    refine wpAnyH_take (i := 10) (v := ?vbccac10) rfl (by kernel_rfl) (by kernel_rfl) (by kernel_rfl) (fun _ _ _ h => h) (Or.inl ⟨by rfl, ?ybccac10⟩) (by assumption) ?rbccac10
                    case ybccac10 =>
                      intro w' hSw
                      try dsimp only at hSw
                      go_simp
                      try with_reducible rfl
                    simp only [Act.put, List.getElem_toArray, List.getElem_cons_succ, List.getElem_cons_zero, List.setIfInBounds_toArray, List.set_cons_zero, List.set_cons_succ]
                    refine wpAnyH_done (by kernel_rfl) ?_ _
                    go_wp2_with fail
                    go_meet
                    exact ⟨_, s1, s2, e1, e2, rfl, rfl, FI.1, FI.2⟩
                · go_simp
                  obtain ⟨u, hu⟩ : ∃ u, u = w3.alloc (.cells #[.int .i64 0, .slice none 0 0, .slice none 0 0] 28) := ⟨_, rfl⟩
                  have BU : Hid (Below w11.heap.size w11 u) := by show Below _ _ _; rw [hu]; exact B3.out.alloc B3.out.size _
                  have ZU : Hid (Blk u w3.heap.size #[.int .i64 0, .slice none 0 0, .slice none 0 0] 28) := by show Blk _ _ _ _; rw [hu]; exact Blk.new _ _ _
                  have Bu0 : Hid (Below w3.heap.size w3 u) := by show Below _ _ _; rw [hu]; exact below_new _ _
                  have SOa : Hid (StOwn u w11.heap.size g1 g2 bs ds) := stOwn_below SO.out Bu0.out
                  rw [← hu]
                  refine hK.out _ _ (AFb.out u BU.out) (fun hHa => ?_)
                  clear hK K hu
                  refine wpAnyH_ready (rs := [3]) (by kernel_rfl) (by simp) ?_
                  refine AllReadyH.cons rfl (fun K hK => ?_) AllReadyH.nil
                  go_simp
                  refine Calls.mono (TOEb.out _ BU.out) ?_
                  rintro e w4 ⟨g3, g4, rfl, F4⟩
                  have B4 : Hid (Below w11.heap.size w11 w4) := BU.out.trans (F4.out.2.mono BU.out.size)
                  have AO : Hid (StOwn w4 w11.heap.size g1 g2 bs ds ∧ RunOwn w4 w11.heap.size g3 g4 xs ys) := ⟨stOwn_below SOa.out F4.out.2, ⟨Nat.le_trans BU.out.size F4.out.1.1, Nat.le_trans BU.out.size F4.out.1.2.1, F4.out.1.2.2⟩⟩
                  have Z4 : Hid (Blk w4 w3.heap.size _ _) := ZU.out.keep F4.out.2
                  refine hK.out _ _ (AFb.out w4 B4.out) (fun hH1 => ?_)
                  clear hK K
                  refine wpAnyH_ready (rs := [4]) (by kernel_rfl) (by simp) ?_
                  refine AllReadyH.cons rfl (fun K hK => ?_) AllReadyH.nil
                  go_simp
                  refine Calls.mono (ICb.out _ g1 g2 g3 g4 B4.out AO.out.1.2.2.2.1 AO.out.1.2.2.2.2.1 AO.out.2.2.2.2.1 AO.out.2.2.2.2.2.1) ?_
                  rintro e w5 ⟨s1, s2, e1, e2, rfl, F5⟩
                  have B5 : Hid (Below w11.heap.size w11 w5) := B4.out.trans (F5.out.2.mono B4.out.size)
                  have Z5 : Hid (Blk w5 w3.heap.size _ _) := Z4.out.keep F5.out.2
                  refine hK.out _ _ (AFb.out w5 B5.out) (fun hH2 => ?_)
                  clear hK K
                  refine wpAnyH_take (i := 5) (v := ?vbcacc5) rfl (by kernel_rfl) (by kernel_rfl) (by kernel_rfl) (fun _ _ _ h => h) (Or.inl ⟨by rfl, ?ybcacc5⟩) (by assumption) ?rbcacc5
                  case ybcacc5 =>
                    intro w' hSw
                    try dsimp only at hSw
                    go_simp
                    try with_reducible rfl
                  simp only [Act.put, List.getElem_toArray, List.getElem_cons_succ, List.getElem_cons_zero, List.setIfInBounds_toArray, List.set_cons_zero, List.set_cons_succ]
                  refine wpAnyH_take (i := 6) (v := ?vbcacc6) rfl (by kernel_rfl) (by kernel_rfl) (by kernel_rfl) (fun _ _ _ h => h) (Or.inl ⟨by rfl, ?ybcacc6⟩) (by assumption) ?rbcacc6
                  case ybcacc6 =>
                    intro w' hSw
                    try dsimp only at hSw
                    go_simp
                    try with_reducible rfl
                  simp only [Act.put, List.getElem_toArray, List.getElem_cons_succ, List.getElem_cons_zero, List.setIfInBounds_toArray, List.set_cons_zero, List.set_cons_succ]
                  refine wpAnyH_take (i := 7) (v := ?vbcacc7) rfl (by kernel_rfl) (by kernel_rfl) (by kernel_rfl) (fun _ _ _ h => h) (Or.inl ⟨by rfl, ?ybcacc7⟩) (by assumption) ?rbcacc7
                  case ybcacc7 =>
                    intro w' hSw
                    try dsimp only at hSw
                    go_simp
                    try with_reducible rfl
                  simp only [Act.put, List.getElem_toArray, List.getElem_cons_succ, List.getElem_cons_zero, List.setIfInBounds_toArray, List.set_cons_zero, List.set_cons_succ]
                  have S5 : Hid (StB bn dn w11.heap.size w5 s1 s2) := F5.out.1.weaken B4.out.size
                  have N5 : Hid ((∀ x, s1 = some x → x.block ≠ w3.heap.size) ∧ (∀ x, s2 = some x → x.block ≠ w3.heap.size)) := ⟨fun x e => by have := (F5.out.1.far1 x e).1; have := Z4.out.lt; omega, fun x e => by have := (F5.out.1.far2 x e).1; have := Z4.out.lt; omega⟩
                  obtain ⟨z0, z1, z2⟩ := Z5.out.cells3
                  have fz := Z5.out.frozen
                  refine wpAnyH_ready (rs := [9]) (by kernel_rfl) (by simp) ?_
                  refine AllReadyH.cons rfl (fun K hK => ?_) AllReadyH.nil
                  go_simp
                  have FI := FIN.out w11 w5 w3.heap.size s1 s2 e1 e2 B5.out Z5.out B3.out.size S5.out N5.out.1 N5.out.2 _ rfl
                  refine hK.out _ _ (AFb.out _ FI.2) (fun hH9 => ?_)
                  clear hK K
                  refine wpAnyH_take (i := 10) (v := ?vbcacc10) rfl (by kernel_rfl) (by kernel_rfl) (by kernel_rfl) (fun _ _ _ h => h) (Or.inl ⟨by rfl, ?ybcacc10⟩) (by assumption) ?rbcacc10
                  case ybcacc10 =>
                    intro w' hSw
                    try dsimp only at hSw
                    go_simp
                    try with_reducible rfl
                  simp only [Act.put, List.getElem_toArray, List.getElem_cons_succ, List.getElem_cons_zero, List.setIfInBounds_toArray, List.set_cons_zero, List.set_cons_succ]
                  refine wpAnyH_done (by kernel_rfl) ?_ _
                  go_wp2_with fail
                  go_meet
                  exact ⟨_, s1, s2, e1, e2, rfl, rfl, FI.1, FI.2⟩
              · go_simp
                obtain ⟨u, hu⟩ : ∃ u, u = (w11.alloc (.cells #[.int .i64 0, .slice none 0 0, .slice none 0 0] 28)).drew := ⟨_, rfl⟩
                have BU : Hid (Below w11.heap.size w11 u) := by show Below _ _ _; rw [hu]; exact ((Below.refl w11.heap.size w11).alloc (Below.refl w11.heap.size w11).size _).drew
                have ZU : Hid (Blk u w11.heap.size #[.int .i64 0, .slice none 0 0, .slice none 0 0] 28) := by show Blk _ _ _ _; rw [hu]; exact Blk.new _ _ _
                rw [← hu]
                refine hK.out _ _ (AFb.out u BU.out) (fun hHa => ?_)
                clear hK K hu
                refine wpAnyH_ready (rs := [1]) (by kernel_rfl) (by simp) ?_
                refine AllReadyH.cons rfl (fun K hK => ?_) AllReadyH.nil
                go_simp
                refine Calls.mono (TOSb.out _ BU.out) ?_
                rintro e w3 ⟨g1, g2, rfl, F3⟩
                have B3 : Hid (Below w11.heap.size w11 w3) := BU.out.trans (F3.out.2.mono BU.out.size)
                have SO : Hid (StOwn w3 w11.heap.size g1 g2 bs ds) := ⟨Nat.le_trans BU.out.size F3.out.1.1, Nat.le_trans BU.out.size F3.out.1.2.1, F3.out.1.2.2⟩
                have Z3 : Hid (Blk w3 w11.heap.size _ _) := ZU.out.keep F3.out.2
                refine hK.out _ _ (AFb.out w3 B3.out) (fun hH0 => ?_)
                clear hK K
                refine wpAnyH_ready (rs := [3]) (by kernel_rfl) (by simp) ?_
                refine AllReadyH.cons rfl (fun K hK => ?_) AllReadyH.nil
                go_simp
                refine Calls.mono (TOEb.out _ B3.out) ?_
                rintro e w4 ⟨g3, g4, rfl, F4⟩
                have B4 : Hid (Below w11.heap.size w11 w4) := B3.out.trans (F4.out.2.mono B3.out.size)
                have AO : Hid (StOwn w4 w11.heap.size g1 g2 bs ds ∧ RunOwn w4 w11.heap.size g3 g4 xs ys) := ⟨stOwn_below SO.out F4.out.2, ⟨Nat.le_trans B3.out.size F4.out.1.1, Nat.le_trans B3.out.size F4.out.1.2.1, F4.out.1.2.2⟩⟩
                have Z4 : Hid (Blk w4 w11.heap.size _ _) := Z3.out.keep F4.out.2
                refine hK.out _ _ (AFb.out w4 B4.out) (fun hH1 => ?_)
                clear hK K
                refine wpAnyH_ready (rs := [4]) (by kernel_rfl) (by simp) ?_
                refine AllReadyH.cons rfl (fun K hK => ?_) AllReadyH.nil
                go_simp
                refine Calls.mono (ICb.out _ g1 g2 g3 g4 B4.out AO.out.1.2.2.2.1 AO.out.1.2.2.2.2.1 AO.out.2.2.2.2.1 AO.out.2.2.2.2.2.1) ?_
                rintro e w5 ⟨s1, s2, e1, e2, rfl, F5⟩
                have B5 : Hid (Below w11.heap.size w11 w5) := B4.out.trans (F5.out.2.mono B4.out.size)
                have Z5 : Hid (Blk w5 w11.heap.size _ _) := Z4.out.keep F5.out.2
                refine hK.out _ _ (AFb.out w5 B5.out) (fun hH2 => ?_)
                clear hK K
                refine wpAnyH_take (i := 5) (v := ?vbaccc5) rfl (by kernel_rfl) (by kernel_rfl) (by kernel_rfl) (fun _ _ _ h => h) (Or.inl ⟨by rfl, ?ybaccc5⟩) (by assumption) ?rbaccc5
                case ybaccc5 =>
                  intro w' hSw
                  try dsimp only at hSw
                  go_simp
                  try with_reducible rfl
                simp only [Act.put, List.getElem_toArray, List.getElem_cons_succ, List.getElem_cons_zero, List.setIfInBounds_toArray, List.set_cons_zero, List.set_cons_succ]
                refine wpAnyH_take (i := 6) (v := ?vbaccc6) rfl (by kernel_rfl) (by kernel_rfl) (by kernel_rfl) (fun _ _ _ h => h) (Or.inl ⟨by rfl, ?ybaccc6⟩) (by assumption) ?rbaccc6
                case ybaccc6 =>
                  intro w' hSw
                  try dsimp only at hSw
                  go_simp
                  try with_reducible rfl
                simp only [Act.put, List.getElem_toArray, List.getElem_cons_succ, List.getElem_cons_zero, List.setIfInBounds_toArray, List.set_cons_zero, List.set_cons_succ]
                refine wpAnyH_take (i := 7) (v := ?vbaccc7) rfl (by kernel_rfl) (by kernel_rfl) (by kernel_rfl) (fun _ _ _ h => h) (Or.inl ⟨by rfl, ?ybaccc7⟩) (by assumption) ?rbaccc7
                case ybaccc7 =>
                  intro w' hSw
                  try dsimp only at hSw
                  go_simp
                  try with_reducible rfl
                simp only [Act.put, List.getElem_toArray, List.getElem_cons_succ, List.getElem_cons_zero, List.setIfInBounds_toArray, List.set_cons_zero, List.set_cons_succ]
                have S5 : Hid (StB bn dn w11.heap.size w5 s1 s2) := F5.out.1.weaken B4.out.size
                have N5 : Hid ((∀ x, s1 = some x → x.block ≠ w11.heap.size) ∧ (∀ x, s2 = some x → x.block ≠ w11.heap.size)) := ⟨fun x e => by have := (F5.out.1.far1 x e).1; have := Z4.out.lt; omega, fun x e => by have := (F5.out.1.far2 x e).1; have := Z4.out.lt; omega⟩
                obtain ⟨z0, z1, z2⟩ := Z5.out.cells3
                have fz := Z5.out.frozen
                refine wpAnyH_ready (rs := [9]) (by kernel_rfl) (by simp) ?_
                refine AllReadyH.cons rfl (fun K hK => ?_) AllReadyH.nil
                go_simp
                have FI := FIN.out w11 w5 w11.heap.size s1 s2 e1 e2 B5.out Z5.out BASE.out.size S5.out N5.out.1 N5.out.2 _ rfl
                refine hK.out _ _ (AFb.out _ FI.2) (fun hH9 => ?_)
                clear hK K
                refine wpAnyH_take (i := 10) (v := ?vbaccc10) rfl (by kernel_rfl) (by kernel_rfl) (by kernel_rfl) (fun _ _ _ h => h) (Or.inl ⟨by rfl, ?ybaccc10⟩) (by assumption) ?rbaccc10
                case ybaccc10 =>
                  intro w' hSw
                  try dsimp only at hSw
                  go_simp
                  try with_reducible rfl
                simp only [Act.put, List.getElem_toArray, List.getElem_cons_succ, List.getElem_cons_zero, List.setIfInBounds_toArray, List.set_cons_zero, List.set_cons_succ]
                refine wpAnyH_done (by kernel_rfl) ?_ _
                go_wp2_with fail
                go_meet
                exact ⟨_, s1, s2, e1, e2, rfl, rfl, FI.1, FI.2⟩
            case rest =>
              obtain ⟨g15, s5, s6, e5, e6, rfl, rfl, hans, hb⟩ := hcut
              rename World => v3
              have BV12 : Hid (Below W.heap.size W v3) := BV11.out.trans (hb.mono BV11.out.size)
              have V15 : Hid (AnsAt zz bn dn w11.heap.size v3 g15 s5 s6 e5 e6) := hans
              have V6 : Hid (AnsAt zz bn dn W.heap.size v3 g6 s1 s2 e1 e2) := U6.out.below hb
              have V10 : Hid (Blk v3 w5.heap.size #[.int .i64 zz, .slice s3 bn.length e3, .slice s4 dn.length e4] 28 ∧ StB (marks 1 bn.length) (marks4 (1 + 2 * bn.length) dn.length) Y.heap.size v3 s3 s4) := ⟨U10.out.1.keep hb, U10.out.2.below hb⟩
              clear hans hb p0 p1 p2 q0 q1 q2 q3 q4 q5 q6
              obtain ⟨t0, t1, t2⟩ := V15.out.1.cells3
              obtain ⟨u0, u1, u2⟩ := V6.out.1.cells3
              go_wp2_with fail
              refine (EQ.out v3 s5 s6 s1 s2 e5 e6 e1 e2 V15.out.2.1.boxes.sl V15.out.2.1.dones.sl V6.out.2.1.boxes.sl V6.out.2.1.dones.sl).mono ?_
              rintro e w13 ⟨rfl, hb⟩
              have BV13 : Hid (Below W.heap.size W w13) := BV12.out.trans (hb.mono BV12.out.size)
              have W10 : Hid (Blk w13 w5.heap.size #[.int .i64 zz, .slice s3 bn.length e3, .slice s4 dn.length e4] 28 ∧ StB (marks 1 bn.length) (marks4 (1 + 2 * bn.length) dn.length) Y.heap.size w13 s3 s4) := ⟨V10.out.1.keep hb, V10.out.2.below hb⟩
              clear hb t0 t1 t2 u0 u1 u2
              obtain ⟨t0, t1, t2⟩ := W10.out.1.cells3
              go_wp2_with fail
              refine (heldStB zz s3 s4 bn.length dn.length e3 e4 Y.heap.size 1 w13 W10.out.2 lb ld (by decide) (by decide)).mono ?_
              rintro e w14 ⟨rfl, hb⟩
              have F : Hid (Below w.heap.size w w14) := BW.out.trans ((BV13.out.trans (hb.mono BV13.out.size)).mono BW.out.size)
              clear hb t0 t1 t2
              go_wp2_with fail
              go_ret
              exact ⟨rfl, F.out⟩
    · go_enter Tryz.func6, Tryz.ntmps6
      obtain ⟨⟨p0, p1, p2⟩, _⟩ := AF.out W (Below.refl _ _)
      go_wp2_with fail
      rw [← HW.out]
      refine (szState z a1 a2 bs.length c1 ds.length c2 1048576 W m1 m2 (by decide) (by decide)).mono ?_
      rintro e w1 ⟨rfl, b1'⟩
      rw [if_neg (by omega)]
      have hpos : ¬ (1048576 : Int) - (bs.length : Int) - (ds.length : Int) < 0 := by omega
      have B1 : Hid (Below W.heap.size W w1) := b1'
      clear b1' p0 p1 p2
      obtain ⟨_, ⟨q0, q1, q2, q3, q4, q5, q6⟩⟩ := AF.out w1 B1.out
      go_wp2_with fail
      refine (szEntry n p q b1 b2 xs.length d1 ys.length d2 v k (1048576 - bs.length - ds.length) w1 m3 m4 (by omega) (by omega)).mono ?_
      rintro e w2 ⟨rfl, b2'⟩
      rw [if_pos (by omega)]
      have F : Hid (Below w.heap.size w w2) := BW.out.trans ((B1.out.trans (b2'.mono B1.out.size)).mono BW.out.size)
      clear b2' q0 q1 q2 q3 q4 q5 q6
      go_wp2_with fail
      go_ret
      exact ⟨rfl, F.out⟩
  · go_enter Tryz.func6, Tryz.ntmps6
    obtain ⟨⟨p0, p1, p2⟩, _⟩ := AF.out W (Below.refl _ _)
    go_wp2_with fail
    rw [← HW.out]
    refine (szState z a1 a2 bs.length c1 ds.length c2 1048576 W m1 m2 (by decide) (by decide)).mono ?_
    rintro e w1 ⟨rfl, b1'⟩
    rw [if_pos (by omega)]
    have F : Hid (Below w.heap.size w w1) := BW.out.trans (b1'.mono BW.out.size)
    clear b1' p0 p1 p2
    go_wp2_with fail
    go_ret
    exact ⟨rfl, F.out⟩
end Go.Proofs.YtbecdihfopjlhaaGreatDoor.Own
