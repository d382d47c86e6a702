/-
  Own texts, bundled: SpecApply.
-/
import Derived.Test.YtbecdihfopjlhaaGreatDoorPk9
import Derived.Test.YtbecdihfopjlhaaGreatDoorPk10
import Derived.Test.YtbecdihfopjlhaaGreatDoorPk11
import Derived.Test.YtbecdihfopjlhaaGreatDoorPk22
import Derived.Test.YtbecdihfopjlhaaGreatDoorPk19
import Derived.Test.YtbecdihfopjlhaaGreatDoorPk20
namespace Go.Proofs.YtbecdihfopjlhaaGreatDoor.Own
open Go.RowKit
set_option linter.unusedVariables false
set_option linter.unusedSimpArgs false

theorem Turned.setNew {L : List Nat} {w V : World} (h : Turned L w V) {p : Addr} (hp : w.heap.size ≤ p.block) (v : Value) : Turned L w (V.setCell p v) :=
  ⟨h.os, h.tape, h.output, by simpa [World.setCell] using h.size, fun k hk hn => by rw [Below.heap_setCell _ _ _ _ (by omega)]; exact h.block k hk hn⟩
theorem Only.drew {b : Nat} {a w : World} (h : Only b a w) : Only b a w.drew := ⟨h.os, h.tape, h.output, h.size, h.block, h.frozen⟩
theorem Blk.drew {w : World} {b : Nat} {C : Array Value} {t : TypeId} (h : Blk w b C t) : Blk w.drew b C t := h
theorem Turned.andBelow {L : List Nat} {w V U : World} (h : Turned L w V) (hb : Below V.heap.size V U) : Turned L w U := h.trans (Turned.ofBelow hb)
theorem Turned.ofBar {g : Nat} {w w' : World} (h : Bar g w w') : Turned [g] w w' := ⟨h.os, h.tape, h.output, h.size, fun k hk hn => h.block k hk (fun e => hn (by simp [e]))⟩
theorem OwnD.far {w : World} {B : Nat} {a : Option Addr} {xs : List Q4} (h : OwnD w B a xs) : xs = [] ∨ ∀ x, a = some x → B ≤ x.block ∧ x.block < w.heap.size := by
  rcases h with h | ⟨g, rfl, hB, h, _⟩
  · exact .inl h
  · exact .inr fun x e => by injection e with e; subst e; exact ⟨hB, h.1⟩

/-- What l5Apply leaves: the state with its boxes where they were, and how it ended. -/
def SpecPost (z : Int) (bs : List P2) (ds : List Q4) (c : Int) (B g1 e1 : Nat) (w : World) (e : Ending) (w' : World) : Prop :=
  ∃ g2 e2, e = .returned (.tuple #[.agg #[.int .i64 z, .slice (some ⟨g1, 0, none⟩) 4 e1, .slice (some ⟨g2, 0, none⟩) ds.length e2], .int .i64 c]) ∧ ds.length ≤ e2 ∧ StB bs ds B w' (some ⟨g1, 0, none⟩) (some ⟨g2, 0, none⟩) ∧ Turned [g1] w w'

theorem reqOk_iffS {p q : Int} : reqOk p q = true ↔ ((0 ≤ p ∧ p < 3) ∧ 1 ≤ q) ∧ q ≤ 1000 := by simp [reqOk]

set_option maxRecDepth 100000 in
set_option maxHeartbeats 8000000 in
theorem specApply (z : Int) (g1 e1 g2 e2 B : Nat) (bs : List P2) (ds : List Q4) (m : Nat → Option T3) (n : Bool) (p q : Int) (b1 b2 : Option Addr) (d1 d2 : Nat) (xs ys : List P2) (v k : Int) (w : World)
    (hz0 : 0 ≤ z) (hz1 : z ≤ 40) (hds : ds = listM m) (hm : okM m) (he2 : ds.length ≤ e2) (hbo : boxOk bs = true) (hS : StB bs ds B w (some ⟨g1, 0, none⟩) (some ⟨g2, 0, none⟩)) (h3 : Sl w b1 xs) (h4 : Sl w b2 ys) (f2 : ys = [] ∨ ∀ x, b2 = some x → x.block ≠ g1)
    (m1 : xs.length ≤ 2 ^ 40) (m2 : ys.length ≤ 2 ^ 40) (hd1 : xs.length ≤ d1) (hd2 : ys.length ≤ d2) (hok : entOk n p q xs ys v k = true) :
    Calls Tryz.prog 41 #[.agg #[.int .i64 z, .slice (some ⟨g1, 0, none⟩) 4 e1, .slice (some ⟨g2, 0, none⟩) ds.length e2], .agg #[.bool n, .int .i64 p, .int .i64 q, .slice b1 xs.length d1, .slice b2 ys.length d2, .int .i64 v, .int .i64 k]] w
      fun e w' => SpecPost (z + 1) (boxesBy (verdict bs m n p q xs ys v k) bs ys) (listM (keptBy (verdict bs m n p q xs ys v k) m p q v)) (verdict bs m n p q xs ys v k) B g1 e1 w e w' := by
  obtain ⟨W, hW⟩ : ∃ W, W = ((w.alloc (.cells #[.int .i64 z, .slice (some ⟨g1, 0, none⟩) 4 e1, .slice (some ⟨g2, 0, none⟩) ds.length e2] 28)).alloc (.cells #[.bool n, .int .i64 p, .int .i64 q, .slice b1 xs.length d1, .slice b2 ys.length d2, .int .i64 v, .int .i64 k] 48)).alloc (.cells #[.int .i64 0, .slice none 0 0, .slice none 0 0] 28) := ⟨_, rfl⟩
  have bW : Below w.heap.size w W := by rw [hW]; exact (((Below.refl _ _).alloc (Nat.le_refl _) _).alloc (by simp) _).alloc (by simp; omega) _
  have PW : Blk W w.heap.size #[.int .i64 z, .slice (some ⟨g1, 0, none⟩) 4 e1, .slice (some ⟨g2, 0, none⟩) ds.length e2] 28 := by rw [hW]; exact ((Blk.new _ _ _).alloc _).alloc _
  have QW : Blk W (w.heap.size + 1) #[.bool n, .int .i64 p, .int .i64 q, .slice b1 xs.length d1, .slice b2 ys.length d2, .int .i64 v, .int .i64 k] 48 := by rw [hW]; exact (Blk.new2 _ _ _ _).alloc _
  have ZW : Blk W (w.heap.size + 1 + 1) #[.int .i64 0, .slice none 0 0, .slice none 0 0] 28 := by rw [hW]; exact Blk.new3 _ _ _ _ _
  obtain ⟨X, hX⟩ : ∃ X, X = W.setCell ⟨w.heap.size, 0, none⟩ (.int .i64 (z + 1)) := ⟨_, rfl⟩
  have onX : Only w.heap.size W X := by rw [hX]; exact (Only.refl _ _).setCell _
  have BX : Hid (Below w.heap.size w X) := bW.trans (onX.below (Nat.le_refl _))
  have PX : Hid (Blk X w.heap.size #[.int .i64 (z + 1), .slice (some ⟨g1, 0, none⟩) 4 e1, .slice (some ⟨g2, 0, none⟩) ds.length e2] 28) := by show Blk _ _ _ _; rw [hX]; exact (PW.set 0 _).eq (by simp)
  have QX : Hid (Blk X (w.heap.size + 1) #[.bool n, .int .i64 p, .int .i64 q, .slice b1 xs.length d1, .slice b2 ys.length d2, .int .i64 v, .int .i64 k] 48) := by show Blk _ _ _ _; rw [hX]; exact QW.other (by omega) _ _
  have ZX : Hid (Blk X (w.heap.size + 1 + 1) #[.int .i64 0, .slice none 0 0, .slice none 0 0] 28) := by show Blk _ _ _ _; rw [hX]; exact ZW.other (by omega) _ _
  have SZ : Hid (W.heap.size = w.heap.size + 1 + 1 + 1 ∧ X.heap.size = w.heap.size + 1 + 1 + 1) := by
    have h : W.heap.size = w.heap.size + 1 + 1 + 1 := by rw [hW]; simp
    exact ⟨h, onX.size.trans h⟩
  have S0 : Hid (StB bs ds B w (some ⟨g1, 0, none⟩) (some ⟨g2, 0, none⟩)) := hS
  have S3 : Hid (Sl w b1 xs) := h3
  have S4 : Hid (Sl w b2 ys) := h4
  have F2 : Hid (ys = [] ∨ ∀ x, b2 = some x → x.block ≠ g1) := f2
  have HBO : Hid (boxOk bs = true ∧ bs.length = 4) := ⟨hbo, boxOk_len hbo⟩
  have HD2 : Hid (ds.length ≤ e2) := he2
  have HM : Hid (okM m ∧ ds = listM m) := ⟨hm, hds⟩
  have LD : ds.length ≤ 3 := by rw [hds]; exact listM_len m
  have HW : Hid (W = _) := hW
  have HX : Hid (X = _) := hX
  have G1 : Hid (B ≤ g1 ∧ g1 < w.heap.size) := hS.far1 _ rfl
  have G2 : Hid ((B ≤ g2 ∧ g2 < w.heap.size) ∧ g1 ≠ g2) := ⟨hS.far2 _ rfl, hS.apart g1 g2 rfl rfl⟩
  -- the answer where nothing but the count turned
  have SAME : Hid (∀ c : Int, (c = 3 ∨ c = 4 ∨ c = 5) → ∀ (L X' : World), Below w.heap.size w L → Only (w.heap.size + 1 + 1) L X' → SpecPost (z + 1) (boxesBy c bs ys) (listM (keptBy c m p q v)) c B g1 e1 w (.returned (.tuple #[.agg #[.int .i64 (z + 1), .slice (some ⟨g1, 0, none⟩) 4 e1, .slice (some ⟨g2, 0, none⟩) ds.length e2], .int .i64 c])) X') := fun c hc L X' hb on => by
    have e1' : boxesBy c bs ys = bs := by unfold boxesBy; rw [if_neg (by omega)]
    have e2' : keptBy c m p q v = m := by unfold keptBy; rw [if_neg (by omega)]
    have hb2 : Below w.heap.size w X' := hb.trans (on.below (by omega))
    rw [e1', e2', ← HM.out.2]
    exact ⟨g2, e2, rfl, HD2.out, S0.out.below hb2, Turned.ofBelow hb2⟩
  -- .. and where a request is kept
  have KEPT : Hid (∀ (c val : Int) (j : Nat) (bn : List P2) (L X' : World) (g' c' : Nat), p = (j : Int) → j < 3 → c < 3 → boxesBy c bs ys = bn → val = (if c = 0 then v else 0) → Turned [g1] w L → BoxAt L g1 0 bn → (∀ o, L.frozen? ⟨g1, o, none⟩ = false) → OwnE L w.heap.size (.slice (some ⟨g', 0, none⟩) (putD ((j : Int), q, c, val) ds).length c') (putD ((j : Int), q, c, val) ds) → Only (w.heap.size + 1 + 1) L X' →
      w.heap.size + 1 + 1 < g' → SpecPost (z + 1) (boxesBy c bs ys) (listM (keptBy c m p q v)) c B g1 e1 w (.returned (.tuple #[.agg #[.int .i64 (z + 1), .slice (some ⟨g1, 0, none⟩) 4 e1, .slice (some ⟨g', 0, none⟩) (putD ((j : Int), q, c, val) ds).length c'], .int .i64 c])) X') := fun c val j bn L X' g' c' hp hj hc hbn hval ht hat hfr ho on hg' => by
    have ek : putD ((j : Int), q, c, val) ds = listM (keptBy c m p q v) := by
      unfold keptBy
      rw [if_pos hc, hp, Int.toNat_natCast, HM.out.2, ← hval]
      exact putD_listM m j hj (q, c, val)
    rw [hbn, ← ek]
    have tu : Turned [w.heap.size + 1 + 1] L X' := Turned.ofOnly on (by simp)
    have gg := G1.out
    have os := on.size
    have o2 := ho.block ⟨g', 0, none⟩ rfl
    simp only at o2
    obtain ⟨a', c'', ev, _, hcap⟩ := ho.open
    injection ev with _ _ ev
    refine ⟨g', c', rfl, by omega, ⟨.inr ⟨g1, rfl, gg.1, hat.turned tu (by simp; omega), fun o => ?_⟩, ((ho.dones.turned tu (fun g e => by injection e with e; injection e with e; simp; omega)).weaken (by omega)), fun x y ex ey => ?_, fun x e => ?_, fun x e => ?_⟩, ?_⟩
    · rw [World.frozen?_of_block (w := L) (a := ⟨g1, o, none⟩) (tu.block g1 hat.1 (by simp; omega))]; exact hfr o
    · injection ex with ex; injection ex with ex
      injection ey with ey; injection ey with ey
      omega
    · injection e with e; subst e; have := hat.1; exact ⟨gg.1, by show g1 < X'.heap.size; omega⟩
    · injection e with e; subst e; exact ⟨by show B ≤ g'; omega, by show g' < X'.heap.size; omega⟩
    · exact ⟨on.os.trans ht.os, on.tape.trans ht.tape, on.output.trans ht.output, by have := ht.size; omega, fun k' hk' hn => by rw [on.block k' (by omega)]; exact ht.block k' hk' hn⟩
  have WC : Hid ((W.cell? ⟨w.heap.size, 0, none⟩ = some (.int .i64 z) ∧ W.cell? ⟨w.heap.size, 1, none⟩ = some (.slice (some ⟨g1, 0, none⟩) 4 e1) ∧ W.cell? ⟨w.heap.size, 2, none⟩ = some (.slice (some ⟨g2, 0, none⟩) ds.length e2)) ∧ ∀ o, W.frozen? ⟨w.heap.size, o, none⟩ = false) := ⟨PW.cells3, PW.frozen⟩
  clear hW bW PW QW ZW hX onX hS h3 h4 f2 hbo he2 hm hds
  cases n with
  | true =>
    have VD : Hid (verdict bs m true p q xs ys v k = 5) := rfl
    rw [VD.out]
    have FF : Hid _ := SAME.out 5 (.inr (.inr rfl))
    clear VD SAME KEPT hok
    go_enter Tryz.func41, Tryz.ntmps41
    go_upto_region 1 with fail
    rw [← HW.out]
    obtain ⟨w0, w1', w2'⟩ := WC.out.1
    have fw := WC.out.2
    go_upto_region 2 with fail
    rw [← HX.out]
    obtain ⟨p0, p1, p2⟩ := PX.out.cells3
    obtain ⟨q0, q1, q2, q3, q4, q5, q6⟩ := QX.out.cells7
    obtain ⟨z0, z1, z2⟩ := ZX.out.cells3
    have fz := ZX.out.frozen
    have ZS : Hid (Blk (((X.setCell ⟨w.heap.size + 1 + 1, 0, none⟩ (.int .i64 (z + 1))).setCell ⟨w.heap.size + 1 + 1, 1, none⟩ (.slice (some ⟨g1, 0, none⟩) 4 e1)).setCell ⟨w.heap.size + 1 + 1, 2, none⟩ (.slice (some ⟨g2, 0, none⟩) ds.length e2)) (w.heap.size + 1 + 1) #[.int .i64 (z + 1), .slice (some ⟨g1, 0, none⟩) 4 e1, .slice (some ⟨g2, 0, none⟩) ds.length e2] 28 ∧
        Only (w.heap.size + 1 + 1) X (((X.setCell ⟨w.heap.size + 1 + 1, 0, none⟩ (.int .i64 (z + 1))).setCell ⟨w.heap.size + 1 + 1, 1, none⟩ (.slice (some ⟨g1, 0, none⟩) 4 e1)).setCell ⟨w.heap.size + 1 + 1, 2, none⟩ (.slice (some ⟨g2, 0, none⟩) ds.length e2))) := by
      refine ⟨?_, (((Only.refl _ _).setCell _).setCell _).setCell _⟩
      have h := ((ZX.out.set 0 (.int .i64 (z + 1))).set 1 (.slice (some ⟨g1, 0, none⟩) 4 e1)).set 2 (.slice (some ⟨g2, 0, none⟩) ds.length e2)
      exact h.eq (by simp)
    go_wp2_with fail
    obtain ⟨c0, c1', c2'⟩ := ZS.out.1.cells3
    refine bodyPost_ret (v := .tuple #[.agg #[.int .i64 (z + 1), .slice (some ⟨g1, 0, none⟩) 4 e1, .slice (some ⟨g2, 0, none⟩) ds.length e2], .int .i64 5]) (by simp [results, Tryz.results41, go_sem, c0, c1', c2']) rfl ?_
    exact FF.out X _ BX.out ZS.out.2
  | false =>
    have hb' : (reqOk p q && execOk xs ys v k && k != 3) = true := hok
    simp only [Bool.and_eq_true] at hb'
    obtain ⟨⟨hr, he⟩, hk3⟩ := hb'
    obtain ⟨⟨⟨pp0, pp1⟩, r0⟩, r1⟩ := reqOk_iffS.1 hr
    obtain ⟨j, rfl⟩ := Int.eq_ofNat_of_zero_le pp0
    have hj : j < 3 := by omega
    have HE : Hid (execOk xs ys v k = true) := he
    have LAST : Hid (Calls Tryz.prog 87 #[.agg #[.int .i64 (z + 1), .slice (some ⟨g1, 0, none⟩) 4 e1, .slice (some ⟨g2, 0, none⟩) ds.length e2], .int .i64 (j : Int)] X fun e w' => e = .returned (.tuple #[.agg #[.int .i64 (lastQ m j).1, .int .i64 (lastQ m j).2.1, .int .i64 (lastQ m j).2.2.1, .int .i64 (lastQ m j).2.2.2], .bool (m j).isSome]) ∧ Below X.heap.size X w') :=
      specLast (z + 1) _ _ e2 m j ds X HM.out.2 (S0.out.below BX.out |>.dones.sl) hj
    have VS : Hid (verdict bs m false (j : Int) q xs ys v k = if seenC m j q = 0 then judgeR bs xs ys v k else (seenC m j q : Int)) := verdict_seen bs m j q xs ys v k
    have JR : Hid (judgeR bs xs ys v k = if execFresh bs xs ys v k then (if k = 0 then 0 else 2) else 1) := rfl
    have FRESH : Hid (∀ V, Below w.heap.size w V → Calls Tryz.prog 88 #[.slice (some ⟨g1, 0, none⟩) 4 e1, .agg #[.slice b1 xs.length d1, .slice b2 ys.length d2, .int .i64 v, .int .i64 k]] V fun e w' => e = .returned (.bool (execFresh bs xs ys v k)) ∧ Below V.heap.size V w') := fun V hV => by
      have h := specExecFresh (some ⟨g1, 0, none⟩) e1 bs b1 b2 d1 d2 xs ys v k V (S0.out.below hV).boxes.sl (by rw [HBO.out.2]; decide) (S3.out.below hV) (S4.out.below hV) m1 m2 hd1 hd2
      rw [HBO.out.2] at h
      exact h
    have SC : Hid (seenC m j q = match m j with | some t => if t.1 = q then 3 else if q < t.1 then 4 else 0 | none => 0) := rfl
    clear hok hr he hk3
    generalize verdict bs m false (j : Int) q xs ys v k = vd at VS ⊢
    generalize judgeR bs xs ys v k = R at VS JR
    generalize seenC m j q = sc at VS SC
    have LQ : Hid (lastQ m j = match m j with | some t => ((j : Int), t.1, t.2.1, t.2.2) | none => q0) := rfl
    generalize lastQ m j = lq at LAST LQ
    cases hmj : m j with
    | none =>
      rw [hmj] at SC LQ LAST
      simp only [Option.isSome_none] at SC LQ LAST
      have hlq := LQ.out
      subst hlq
      simp only [q0] at LAST
      have VD : Hid (vd = R) := by show _ = _; rw [VS.out, if_pos SC.out]
      clear VS SC hmj LQ
      rw [VD.out]
      clear VD SAME
      go_enter Tryz.func41, Tryz.ntmps41
      go_upto_region 1 with fail
      rw [← HW.out]
      obtain ⟨w0, w1', w2'⟩ := WC.out.1
      have fw := WC.out.2
      go_upto_region 2 with fail
      rw [← HX.out]
      obtain ⟨p0, p1, p2⟩ := PX.out.cells3
      obtain ⟨q0', q1, q2, q3, q4, q5, q6⟩ := QX.out.cells7
      go_wp2_with fail
      refine Calls.mono LAST.out ?_
      rintro e w1 ⟨rfl, hb1⟩
      obtain ⟨Y, hY⟩ : ∃ Y, Y = w1.alloc (.cells #[.int .i64 0, .int .i64 0, .int .i64 0, .int .i64 0] 94) := ⟨_, rfl⟩
      have bY : Below X.heap.size X Y := by rw [hY]; exact hb1.alloc hb1.size _
      have BY : Hid (Below w.heap.size w Y) := BX.out.trans (bY.mono BX.out.size)
      have PY : Hid (Blk Y w.heap.size _ _) := PX.out.keep bY
      have QY : Hid (Blk Y (w.heap.size + 1) _ _) := QX.out.keep bY
      have ZY : Hid (Blk Y (w.heap.size + 1 + 1) _ _) := ZX.out.keep bY
      have DY : Hid (Blk Y w1.heap.size #[.int .i64 0, .int .i64 0, .int .i64 0, .int .i64 0] 94) := by show Blk _ _ _ _; rw [hY]; exact Blk.new _ _ _
      have HY : Hid (Y = _) := hY
      clear hY bY hb1 p0 p1 p2 q0' q1 q2 q3 q4 q5 q6 w0 w1' w2' fw
      obtain ⟨p0, p1, p2⟩ := PY.out.cells3
      obtain ⟨q0', q1, q2, q3, q4, q5, q6⟩ := QY.out.cells7
      obtain ⟨l0, l1, l2, l3⟩ := DY.out.cells4
      go_upto_region 5 with fail
      rw [← HY.out]
      obtain ⟨V, hV⟩ : ∃ V, V = Y.alloc (.cells #[.int .i64 (j : Int), .int .i64 q, .int .i64 1, .int .i64 0] 94) := ⟨_, rfl⟩
      have bV : Below Y.heap.size Y V := by rw [hV]; exact below_new _ _
      have BV : Hid (Below w.heap.size w V) := BY.out.trans (bV.mono BY.out.size)
      have PV : Hid (Blk V w.heap.size _ _) := PY.out.keep bV
      have QV : Hid (Blk V (w.heap.size + 1) _ _) := QY.out.keep bV
      have ZV : Hid (Blk V (w.heap.size + 1 + 1) _ _) := ZY.out.keep bV
      have DV : Hid (Blk V Y.heap.size #[.int .i64 (j : Int), .int .i64 q, .int .i64 1, .int .i64 0] 94) := by show Blk _ _ _ _; rw [hV]; exact Blk.new _ _ _
      have YL : Hid (w.heap.size + 1 + 1 + 1 ≤ Y.heap.size) := ZY.out.lt
      have HV : Hid (V = _) := hV
      clear hV bV
      go_upto_region 10 with fail
      rw [← HV.out]
      clear p0 p1 p2 q0' q1 q2 q3 q4 q5 q6 l0 l1 l2 l3
      obtain ⟨p0, p1, p2⟩ := PV.out.cells3
      obtain ⟨q0', q1, q2, q3, q4, q5, q6⟩ := QV.out.cells7
      go_wp2_with fail
      refine Calls.mono (FRESH.out V BV.out) ?_
      rintro e w2 ⟨rfl, hb2⟩
      have B2 : Hid (Below w.heap.size w w2) := BV.out.trans (hb2.mono BV.out.size)
      have P2 : Hid (Blk w2 w.heap.size _ _) := PV.out.keep hb2
      have Q2 : Hid (Blk w2 (w.heap.size + 1) _ _) := QV.out.keep hb2
      have Z2 : Hid (Blk w2 (w.heap.size + 1 + 1) _ _) := ZV.out.keep hb2
      have D2 : Hid (Blk w2 Y.heap.size _ _) := DV.out.keep hb2
      clear hb2 FRESH p0 p1 p2 q0' q1 q2 q3 q4 q5 q6
      generalize execFresh bs xs ys v k = fr at JR ⊢
      cases fr with
      | false =>
        have RR : Hid (R = 1) := JR.out
        have FF : Hid _ := KEPT.out 1 0 j bs
        clear JR KEPT
        obtain ⟨p0, p1, p2⟩ := P2.out.cells3
        obtain ⟨q0', q1, q2, q3, q4, q5, q6⟩ := Q2.out.cells7
        obtain ⟨l0, l1, l2, l3⟩ := D2.out.cells4
        have SB : Hid (BoxAt w2 g1 0 bs ∧ ∀ o, w2.frozen? ⟨g1, o, none⟩ = false) := by
          rcases (S0.out.below B2.out).boxes with h | ⟨g, eg, _, hat, hfr⟩
          · have := HBO.out.2; rw [h] at this; simp at this
          · injection eg with eg; injection eg with eg; subst eg
            exact ⟨hat, hfr⟩
        have DS : Hid (Sl4 w2 (some ⟨g2, 0, none⟩) ds) := S0.out.dones.sl.turned (L := [g1]) (Turned.ofBelow B2.out) (fun x e => by injection e with e; subst e; simp; exact fun h => G2.out.2 h.symm)
        go_wp2_with fail
        refine Calls.mono (specPut (some ⟨g2, 0, none⟩) e2 ds (j : Int) q 1 0 w2 DS.out (by omega)) ?_
        rintro e w5 ⟨g5, e5, rfl, ho5, hb5⟩
        have P5 : Hid (Blk w5 w.heap.size #[.int .i64 (z + 1), .slice (some ⟨g1, 0, none⟩) 4 e1, .slice (some ⟨g2, 0, none⟩) ds.length e2] 28) := P2.out.keep hb5
        have Z5 : Hid (Blk w5 (w.heap.size + 1 + 1) #[.int .i64 0, .slice none 0 0, .slice none 0 0] 28) := Z2.out.keep hb5
        have D5 : Hid (Blk w5 Y.heap.size #[.int .i64 (j : Int), .int .i64 q, .int .i64 1, .int .i64 0] 94) := D2.out.keep hb5
        have lw : w.heap.size + 1 + 1 < w2.heap.size := Z2.out.lt
        have G5 : Hid (w.heap.size + 1 + 1 < g5) := by show _ < _; have := ho5.base; omega
        have O5 : Hid (OwnE w5 w.heap.size (.slice (some ⟨g5, 0, none⟩) (putD ((j : Int), q, 1, 0) ds).length e5) (putD ((j : Int), q, 1, 0) ds)) := OwnE.lower ho5 (by omega)
        have T5 : Hid (Turned [g1] w w5) := ((Turned.ofBelow B2.out)).trans (Turned.ofBelow hb5)
        have A5 : Hid (BoxAt w5 g1 0 bs ∧ ∀ o, w5.frozen? ⟨g1, o, none⟩ = false) := ⟨(SB.out.1).below hb5, fun o => by rw [hb5.frozen (p := ⟨g1, o, none⟩) (SB.out.1).1]; exact SB.out.2 o⟩
        generalize putD ((j : Int), q, 1, 0) ds = dn at FF O5 ho5 ⊢
        obtain ⟨M, hM⟩ : ∃ M, M = w5.setCell ⟨w.heap.size, 2, none⟩ (.slice (some ⟨g5, 0, none⟩) dn.length e5) := ⟨_, rfl⟩
        have onM : Only w.heap.size w5 M := by rw [hM]; exact (Only.refl _ _).setCell _
        have ln : Turned [w.heap.size] w5 M := Turned.ofOnly onM (by simp)
        have gl1 := G1.out
        have yl1 := YL.out
        have gl5 := G5.out
        have PM : Hid (Blk M w.heap.size #[.int .i64 (z + 1), .slice (some ⟨g1, 0, none⟩) 4 e1, .slice (some ⟨g5, 0, none⟩) dn.length e5] 28) := by show Blk _ _ _ _; rw [hM]; exact (P5.out.set 2 _).eq (by simp)
        have ZM : Hid (Blk M (w.heap.size + 1 + 1) #[.int .i64 0, .slice none 0 0, .slice none 0 0] 28) := by show M.heap[_]? = _; rw [onM.block _ (by omega)]; exact Z5.out
        have DM : Hid (Blk M Y.heap.size #[.int .i64 (j : Int), .int .i64 q, .int .i64 1, .int .i64 0] 94) := by show M.heap[_]? = _; rw [onM.block _ (by omega)]; exact D5.out
        have TM : Hid (Turned [g1] w M) := by show Turned _ _ _; rw [hM]; exact T5.out.setNew (Nat.le_refl _) _
        have AM : Hid (BoxAt M g1 0 bs ∧ ∀ o, M.frozen? ⟨g1, o, none⟩ = false) := ⟨A5.out.1.turned ln (by simp; omega), fun o => by rw [World.frozen?_of_block (w := w5) (a := ⟨g1, o, none⟩) (onM.block g1 (by omega))]; exact A5.out.2 o⟩
        have OM : Hid (OwnE M w.heap.size (.slice (some ⟨g5, 0, none⟩) dn.length e5) dn) := by
          show OwnE _ _ _ _
          obtain ⟨x1, x2⟩ := O5.out
          refine ⟨x1, ?_⟩
          rcases x2 with x2 | ⟨gg, cap, cur, hv, hg, hh, r⟩
          · exact .inl x2
          · refine .inr ⟨gg, cap, cur, hv, hg, ?_, r⟩
            injection hv with hv; injection hv with hv; injection hv with hv
            rw [onM.block gg (by omega)]; exact hh
        have HM' : Hid (M = _) := hM
        obtain ⟨p50, p51, p52⟩ := P5.out.cells3
        have fp5 := P5.out.frozen
        clear hM onM ln ho5 hb5 lw p0 p1 p2 l0 l1 l2 l3 gl1 yl1 gl5
        go_upto_region 17 with fail
        rw [← HM'.out]
        clear p50 p51 p52 fp5
        obtain ⟨p0, p1, p2⟩ := PM.out.cells3
        obtain ⟨l0, l1, l2, l3⟩ := DM.out.cells4
        obtain ⟨z0, z1, z2⟩ := ZM.out.cells3
        have fz := ZM.out.frozen
        have ZS : Hid (Blk (((M.setCell ⟨w.heap.size + 1 + 1, 0, none⟩ (.int .i64 (z + 1))).setCell ⟨w.heap.size + 1 + 1, 1, none⟩ (.slice (some ⟨g1, 0, none⟩) 4 e1)).setCell ⟨w.heap.size + 1 + 1, 2, none⟩ (.slice (some ⟨g5, 0, none⟩) dn.length e5)) (w.heap.size + 1 + 1) #[.int .i64 (z + 1), .slice (some ⟨g1, 0, none⟩) 4 e1, .slice (some ⟨g5, 0, none⟩) dn.length e5] 28 ∧
            Only (w.heap.size + 1 + 1) M (((M.setCell ⟨w.heap.size + 1 + 1, 0, none⟩ (.int .i64 (z + 1))).setCell ⟨w.heap.size + 1 + 1, 1, none⟩ (.slice (some ⟨g1, 0, none⟩) 4 e1)).setCell ⟨w.heap.size + 1 + 1, 2, none⟩ (.slice (some ⟨g5, 0, none⟩) dn.length e5))) := by
          refine ⟨?_, (((Only.refl _ _).setCell _).setCell _).setCell _⟩
          have h := ((ZM.out.set 0 (.int .i64 (z + 1))).set 1 (.slice (some ⟨g1, 0, none⟩) 4 e1)).set 2 (.slice (some ⟨g5, 0, none⟩) dn.length e5)
          exact h.eq (by simp)
        have yl17 : w.heap.size + 1 + 1 + 1 ≤ Y.heap.size := YL.out
        go_cut [5] from 80 to 82 (fun cc wx => cc = .int .i64 1 ∧ (((M.setCell ⟨w.heap.size + 1 + 1, 0, none⟩ (.int .i64 (z + 1))).setCell ⟨w.heap.size + 1 + 1, 1, none⟩ (.slice (some ⟨g1, 0, none⟩) 4 e1)).setCell ⟨w.heap.size + 1 + 1, 2, none⟩ (.slice (some ⟨g5, 0, none⟩) dn.length e5)).drew = wx)
        case first =>
          go_region
          all_goals
            go_wp2_with fail
            go_meet
            exact ⟨rfl, rfl⟩
        case rest =>
          obtain ⟨rfl, rfl⟩ := hcut
          clear p0 p1 p2 l0 l1 l2 l3 z0 z1 z2 fz
          go_wp2_with fail
          obtain ⟨c0, c1', c2'⟩ := (Blk.drew ZS.out.1).cells3
          refine bodyPost_ret (v := .tuple #[.agg #[.int .i64 (z + 1), .slice (some ⟨g1, 0, none⟩) 4 e1, .slice (some ⟨g5, 0, none⟩) dn.length e5], .int .i64 1]) (by simp [results, Tryz.results41, go_sem, c0, c1', c2']) rfl ?_
          rw [RR.out]
          exact FF.out M _ g5 e5 (by first | rfl | trivial) hj (by decide) (by first | rfl | (unfold boxesBy; simp)) (by first | rfl | simp) TM.out AM.out.1 AM.out.2 OM.out (Only.drew ZS.out.2) G5.out
      | true =>
        by_cases hk0 : k = 0
        · have RR : Hid (R = 0) := by show _ = _; rw [JR.out, if_pos rfl, if_pos hk0]
          have HK : Hid (k = 0) := hk0
          have ek : (k == 0) = true := by simp [hk0]
          have FF : Hid _ := KEPT.out 0 v j (doPuts bs ys)
          clear JR KEPT hk0
          -- the code is 0 and the value laid
          obtain ⟨U, hU⟩ : ∃ U, U = ((w2.setCell ⟨Y.heap.size, 2, none⟩ (.int .i64 2)).setCell ⟨Y.heap.size, 2, none⟩ (.int .i64 0)).setCell ⟨Y.heap.size, 3, none⟩ (.int .i64 v) := ⟨_, rfl⟩
          have onU : Only Y.heap.size w2 U := by rw [hU]; exact (((Only.refl _ _).setCell _).setCell _).setCell _
          have yl := YL.out
          have BU : Hid (Below w.heap.size w U) := B2.out.trans (onU.below (by omega))
          have PU : Hid (Blk U w.heap.size #[.int .i64 (z + 1), .slice (some ⟨g1, 0, none⟩) 4 e1, .slice (some ⟨g2, 0, none⟩) ds.length e2] 28) := by show U.heap[_]? = _; rw [onU.block _ (by omega)]; exact P2.out
          have QU : Hid (Blk U (w.heap.size + 1) #[.bool false, .int .i64 (j : Int), .int .i64 q, .slice b1 xs.length d1, .slice b2 ys.length d2, .int .i64 v, .int .i64 k] 48) := by show U.heap[_]? = _; rw [onU.block _ (by omega)]; exact Q2.out
          have ZU : Hid (Blk U (w.heap.size + 1 + 1) #[.int .i64 0, .slice none 0 0, .slice none 0 0] 28) := by show U.heap[_]? = _; rw [onU.block _ (by omega)]; exact Z2.out
          have DU : Hid (Blk U Y.heap.size #[.int .i64 (j : Int), .int .i64 q, .int .i64 0, .int .i64 v] 94) := by
            have h := ((D2.out.set 2 (.int .i64 2)).set 2 (.int .i64 0)).set 3 (.int .i64 v)
            rw [← hU] at h
            exact h.eq (by simp)
          have HU : Hid (U = _) := hU
          have DO : Hid (Calls Tryz.prog 89 #[.slice (some ⟨g1, 0, none⟩) 4 e1, .agg #[.slice b1 xs.length d1, .slice b2 ys.length d2, .int .i64 v, .int .i64 k]] U fun e w' => e = .returned (.slice (some ⟨g1, 0, none⟩) 4 e1) ∧ BoxAt w' g1 0 (doPuts bs ys) ∧ (∀ o, w'.frozen? ⟨g1, o, none⟩ = false) ∧ Bar g1 U w') := by
            have sb := (S0.out.below BU.out).boxes
            rcases sb with h | ⟨g, eg, _, hat, hfr⟩
            · have := HBO.out.2; rw [h] at this; simp at this
            · injection eg with eg; injection eg with eg; subst eg
              exact l3Do g1 e1 bs b1 b2 xs.length d1 d2 ys v k U HBO.out.1 hat hfr (S4.out.below BU.out) F2.out m2 (execOk_puts HE.out)
          clear hU onU
          obtain ⟨p0, p1, p2⟩ := P2.out.cells3
          obtain ⟨q0', q1, q2, q3, q4, q5, q6⟩ := Q2.out.cells7
          obtain ⟨l0, l1, l2, l3⟩ := D2.out.cells4
          have fd := D2.out.frozen
          have D2a : Hid (Blk (w2.setCell ⟨Y.heap.size, 2, none⟩ (.int .i64 2)) Y.heap.size #[.int .i64 (j : Int), .int .i64 q, .int .i64 2, .int .i64 0] 94) := (D2.out.set 2 _).eq (by first | rfl | simp)
          obtain ⟨la0, la1, la2, la3⟩ := D2a.out.cells4
          have ya1 : (w2.setCell ⟨Y.heap.size, 2, none⟩ (.int .i64 2)).cell? ⟨w.heap.size + 1, 6, none⟩ = some (.int .i64 k) := ((Q2.out.other (by have := YL.out; omega) 2 (.int .i64 2)).cells7).2.2.2.2.2.2
          have ya2 : ((w2.setCell ⟨Y.heap.size, 2, none⟩ (.int .i64 2)).setCell ⟨Y.heap.size, 2, none⟩ (.int .i64 0)).cell? ⟨w.heap.size + 1, 5, none⟩ = some (.int .i64 v) := (((Q2.out.other (by have := YL.out; omega) 2 (.int .i64 2)).other (by have := YL.out; omega) 2 (.int .i64 0)).cells7).2.2.2.2.2.1
          go_upto_region 15 with fail
          rw [← HU.out]
          clear p0 p1 p2 q0' q1 q2 q3 q4 q5 q6 l0 l1 l2 l3 la0 la1 la2 la3 fd ya1 ya2
          obtain ⟨p0, p1, p2⟩ := PU.out.cells3
          obtain ⟨q0', q1, q2, q3, q4, q5, q6⟩ := QU.out.cells7
          go_wp2_with fail
          refine Calls.mono DO.out ?_
          rintro e w3 ⟨rfl, hat, hfr, hbar⟩
          have gl := G1.out
          have nb : ∀ {g C t}, Blk U g C t → g ≠ g1 → Blk w3 g C t := fun h hn => by show w3.heap[_]? = _; rw [hbar.block _ h.lt hn]; exact h
          have P3 : Hid (Blk w3 w.heap.size _ _) := nb PU.out (by omega)
          have Z3 : Hid (Blk w3 (w.heap.size + 1 + 1) _ _) := nb ZU.out (by omega)
          have D3 : Hid (Blk w3 Y.heap.size _ _) := nb DU.out (by have := YL.out; omega)
          obtain ⟨L, hL⟩ : ∃ L, L = w3.setCell ⟨w.heap.size, 1, none⟩ (.slice (some ⟨g1, 0, none⟩) 4 e1) := ⟨_, rfl⟩
          have onL : Only w.heap.size w3 L := by rw [hL]; exact (Only.refl _ _).setCell _
          have T3' : Turned [g1] w w3 := ((Turned.ofBelow BU.out).trans (Turned.ofBar hbar))
          have TL : Hid (Turned [g1] w L) := by show Turned _ _ _; rw [hL]; exact T3'.setNew (Nat.le_refl _) _
          have P4 : Hid (Blk L w.heap.size #[.int .i64 (z + 1), .slice (some ⟨g1, 0, none⟩) 4 e1, .slice (some ⟨g2, 0, none⟩) ds.length e2] 28) := by show Blk _ _ _ _; rw [hL]; exact (P3.out.set 1 _).eq (by simp)
          have Z4 : Hid (Blk L (w.heap.size + 1 + 1) #[.int .i64 0, .slice none 0 0, .slice none 0 0] 28) := by show L.heap[_]? = _; rw [onL.block _ (by omega)]; exact Z3.out
          have D4 : Hid (Blk L Y.heap.size #[.int .i64 (j : Int), .int .i64 q, .int .i64 0, .int .i64 v] 94) := by show L.heap[_]? = _; rw [onL.block _ (by have := YL.out; omega)]; exact D3.out
          have A4 : Hid (BoxAt L g1 0 (doPuts bs ys) ∧ ∀ o, L.frozen? ⟨g1, o, none⟩ = false) := ⟨hat.turned (Turned.ofOnly onL (L := [w.heap.size]) (by simp)) (by simp; omega), fun o => by rw [World.frozen?_of_block (w := w3) (a := ⟨g1, o, none⟩) (onL.block g1 (by omega))]; exact hfr o⟩
          have HL : Hid (L = _) := hL
          obtain ⟨p30, p31, p32⟩ := P3.out.cells3
          have fp := P3.out.frozen
          clear hL onL hat hfr hbar T3' p0 p1 p2 q0' q1 q2 q3 q4 q5 q6 DO
          go_upto_region 16 with fail
          rw [← HL.out]
          clear p30 p31 p32 fp
          obtain ⟨p0, p1, p2⟩ := P4.out.cells3
          obtain ⟨l0, l1, l2, l3⟩ := D4.out.cells4
          have DS : Hid (Sl4 L (some ⟨g2, 0, none⟩) ds) := S0.out.dones.sl.turned (L := [g1]) TL.out (fun x e => by injection e with e; subst e; simp; exact fun h => G2.out.2 h.symm)
          go_wp2_with fail
          refine Calls.mono (specPut (some ⟨g2, 0, none⟩) e2 ds (j : Int) q 0 v L DS.out (by omega)) ?_
          rintro e w5 ⟨g5, e5, rfl, ho5, hb5⟩
          have P5 : Hid (Blk w5 w.heap.size #[.int .i64 (z + 1), .slice (some ⟨g1, 0, none⟩) 4 e1, .slice (some ⟨g2, 0, none⟩) ds.length e2] 28) := P4.out.keep hb5
          have Z5 : Hid (Blk w5 (w.heap.size + 1 + 1) #[.int .i64 0, .slice none 0 0, .slice none 0 0] 28) := Z4.out.keep hb5
          have D5 : Hid (Blk w5 Y.heap.size #[.int .i64 (j : Int), .int .i64 q, .int .i64 0, .int .i64 v] 94) := D4.out.keep hb5
          have lw : w.heap.size + 1 + 1 < L.heap.size := Z4.out.lt
          have G5 : Hid (w.heap.size + 1 + 1 < g5) := by show _ < _; have := ho5.base; omega
          have O5 : Hid (OwnE w5 w.heap.size (.slice (some ⟨g5, 0, none⟩) (putD ((j : Int), q, 0, v) ds).length e5) (putD ((j : Int), q, 0, v) ds)) := OwnE.lower ho5 (by omega)
          have T5 : Hid (Turned [g1] w w5) := (TL.out).trans (Turned.ofBelow hb5)
          have A5 : Hid (BoxAt w5 g1 0 (doPuts bs ys) ∧ ∀ o, w5.frozen? ⟨g1, o, none⟩ = false) := ⟨(A4.out.1).below hb5, fun o => by rw [hb5.frozen (p := ⟨g1, o, none⟩) (A4.out.1).1]; exact A4.out.2 o⟩
          generalize putD ((j : Int), q, 0, v) ds = dn at FF O5 ho5 ⊢
          obtain ⟨M, hM⟩ : ∃ M, M = w5.setCell ⟨w.heap.size, 2, none⟩ (.slice (some ⟨g5, 0, none⟩) dn.length e5) := ⟨_, rfl⟩
          have onM : Only w.heap.size w5 M := by rw [hM]; exact (Only.refl _ _).setCell _
          have ln : Turned [w.heap.size] w5 M := Turned.ofOnly onM (by simp)
          have gl1 := G1.out
          have yl1 := YL.out
          have gl5 := G5.out
          have PM : Hid (Blk M w.heap.size #[.int .i64 (z + 1), .slice (some ⟨g1, 0, none⟩) 4 e1, .slice (some ⟨g5, 0, none⟩) dn.length e5] 28) := by show Blk _ _ _ _; rw [hM]; exact (P5.out.set 2 _).eq (by simp)
          have ZM : Hid (Blk M (w.heap.size + 1 + 1) #[.int .i64 0, .slice none 0 0, .slice none 0 0] 28) := by show M.heap[_]? = _; rw [onM.block _ (by omega)]; exact Z5.out
          have DM : Hid (Blk M Y.heap.size #[.int .i64 (j : Int), .int .i64 q, .int .i64 0, .int .i64 v] 94) := by show M.heap[_]? = _; rw [onM.block _ (by omega)]; exact D5.out
          have TM : Hid (Turned [g1] w M) := by show Turned _ _ _; rw [hM]; exact T5.out.setNew (Nat.le_refl _) _
          have AM : Hid (BoxAt M g1 0 (doPuts bs ys) ∧ ∀ o, M.frozen? ⟨g1, o, none⟩ = false) := ⟨A5.out.1.turned ln (by simp; omega), fun o => by rw [World.frozen?_of_block (w := w5) (a := ⟨g1, o, none⟩) (onM.block g1 (by omega))]; exact A5.out.2 o⟩
          have OM : Hid (OwnE M w.heap.size (.slice (some ⟨g5, 0, none⟩) dn.length e5) dn) := by
            show OwnE _ _ _ _
            obtain ⟨x1, x2⟩ := O5.out
            refine ⟨x1, ?_⟩
            rcases x2 with x2 | ⟨gg, cap, cur, hv, hg, hh, r⟩
            · exact .inl x2
            · refine .inr ⟨gg, cap, cur, hv, hg, ?_, r⟩
              injection hv with hv; injection hv with hv; injection hv with hv
              rw [onM.block gg (by omega)]; exact hh
          have HM' : Hid (M = _) := hM
          obtain ⟨p50, p51, p52⟩ := P5.out.cells3
          have fp5 := P5.out.frozen
          clear hM onM ln ho5 hb5 lw p0 p1 p2 l0 l1 l2 l3 gl1 yl1 gl5
          go_upto_region 17 with fail
          rw [← HM'.out]
          clear p50 p51 p52 fp5
          obtain ⟨p0, p1, p2⟩ := PM.out.cells3
          obtain ⟨l0, l1, l2, l3⟩ := DM.out.cells4
          obtain ⟨z0, z1, z2⟩ := ZM.out.cells3
          have fz := ZM.out.frozen
          have ZS : Hid (Blk (((M.setCell ⟨w.heap.size + 1 + 1, 0, none⟩ (.int .i64 (z + 1))).setCell ⟨w.heap.size + 1 + 1, 1, none⟩ (.slice (some ⟨g1, 0, none⟩) 4 e1)).setCell ⟨w.heap.size + 1 + 1, 2, none⟩ (.slice (some ⟨g5, 0, none⟩) dn.length e5)) (w.heap.size + 1 + 1) #[.int .i64 (z + 1), .slice (some ⟨g1, 0, none⟩) 4 e1, .slice (some ⟨g5, 0, none⟩) dn.length e5] 28 ∧
              Only (w.heap.size + 1 + 1) M (((M.setCell ⟨w.heap.size + 1 + 1, 0, none⟩ (.int .i64 (z + 1))).setCell ⟨w.heap.size + 1 + 1, 1, none⟩ (.slice (some ⟨g1, 0, none⟩) 4 e1)).setCell ⟨w.heap.size + 1 + 1, 2, none⟩ (.slice (some ⟨g5, 0, none⟩) dn.length e5))) := by
            refine ⟨?_, (((Only.refl _ _).setCell _).setCell _).setCell _⟩
            have h := ((ZM.out.set 0 (.int .i64 (z + 1))).set 1 (.slice (some ⟨g1, 0, none⟩) 4 e1)).set 2 (.slice (some ⟨g5, 0, none⟩) dn.length e5)
            exact h.eq (by simp)
          have yl17 : w.heap.size + 1 + 1 + 1 ≤ Y.heap.size := YL.out
          go_cut [5] from 80 to 82 (fun cc wx => cc = .int .i64 0 ∧ (((M.setCell ⟨w.heap.size + 1 + 1, 0, none⟩ (.int .i64 (z + 1))).setCell ⟨w.heap.size + 1 + 1, 1, none⟩ (.slice (some ⟨g1, 0, none⟩) 4 e1)).setCell ⟨w.heap.size + 1 + 1, 2, none⟩ (.slice (some ⟨g5, 0, none⟩) dn.length e5)).drew = wx)
          case first =>
            go_region
            all_goals
              go_wp2_with fail
              go_meet
              exact ⟨rfl, rfl⟩
          case rest =>
            obtain ⟨rfl, rfl⟩ := hcut
            clear p0 p1 p2 l0 l1 l2 l3 z0 z1 z2 fz
            go_wp2_with fail
            obtain ⟨c0, c1', c2'⟩ := (Blk.drew ZS.out.1).cells3
            refine bodyPost_ret (v := .tuple #[.agg #[.int .i64 (z + 1), .slice (some ⟨g1, 0, none⟩) 4 e1, .slice (some ⟨g5, 0, none⟩) dn.length e5], .int .i64 0]) (by simp [results, Tryz.results41, go_sem, c0, c1', c2']) rfl ?_
            rw [RR.out]
            exact FF.out M _ g5 e5 (by first | rfl | trivial) hj (by decide) (by first | rfl | (unfold boxesBy; simp)) (by first | rfl | simp) TM.out AM.out.1 AM.out.2 OM.out (Only.drew ZS.out.2) G5.out
        · have RR : Hid (R = 2) := by show _ = _; rw [JR.out, if_pos rfl, if_neg hk0]
          have ek : (k == 0) = false := by simp [hk0]
          have FF : Hid _ := KEPT.out 2 0 j bs
          clear JR KEPT hk0
          obtain ⟨U, hU⟩ : ∃ U, U = w2.setCell ⟨Y.heap.size, 2, none⟩ (.int .i64 2) := ⟨_, rfl⟩
          have onU : Only Y.heap.size w2 U := by rw [hU]; exact (Only.refl _ _).setCell _
          have yl := YL.out
          have BU : Hid (Below w.heap.size w U) := B2.out.trans (onU.below (by omega))
          have PU : Hid (Blk U w.heap.size #[.int .i64 (z + 1), .slice (some ⟨g1, 0, none⟩) 4 e1, .slice (some ⟨g2, 0, none⟩) ds.length e2] 28) := by show U.heap[_]? = _; rw [onU.block _ (by omega)]; exact P2.out
          have QU : Hid (Blk U (w.heap.size + 1) #[.bool false, .int .i64 (j : Int), .int .i64 q, .slice b1 xs.length d1, .slice b2 ys.length d2, .int .i64 v, .int .i64 k] 48) := by show U.heap[_]? = _; rw [onU.block _ (by omega)]; exact Q2.out
          have ZU : Hid (Blk U (w.heap.size + 1 + 1) #[.int .i64 0, .slice none 0 0, .slice none 0 0] 28) := by show U.heap[_]? = _; rw [onU.block _ (by omega)]; exact Z2.out
          have DU : Hid (Blk U Y.heap.size #[.int .i64 (j : Int), .int .i64 q, .int .i64 2, .int .i64 0] 94) := by
            have h := D2.out.set 2 (.int .i64 2)
            rw [← hU] at h
            exact h.eq (by simp)
          have HU : Hid (U = _) := hU
          clear hU onU
          obtain ⟨p0, p1, p2⟩ := P2.out.cells3
          obtain ⟨l0, l1, l2, l3⟩ := D2.out.cells4
          have fd := D2.out.frozen
          go_upto_region 12 with fail
          rw [← HU.out]
          clear p0 p1 p2 l0 l1 l2 l3 fd
          obtain ⟨p0, p1, p2⟩ := PU.out.cells3
          obtain ⟨q0', q1, q2, q3, q4, q5, q6⟩ := QU.out.cells7
          obtain ⟨l0, l1, l2, l3⟩ := DU.out.cells4
          have SB : Hid (BoxAt U g1 0 bs ∧ ∀ o, U.frozen? ⟨g1, o, none⟩ = false) := by
            rcases (S0.out.below BU.out).boxes with h | ⟨g, eg, _, hat, hfr⟩
            · have := HBO.out.2; rw [h] at this; simp at this
            · injection eg with eg; injection eg with eg; subst eg
              exact ⟨hat, hfr⟩
          have DS : Hid (Sl4 U (some ⟨g2, 0, none⟩) ds) := S0.out.dones.sl.turned (L := [g1]) (Turned.ofBelow BU.out) (fun x e => by injection e with e; subst e; simp; exact fun h => G2.out.2 h.symm)
          go_wp2_with fail
          refine Calls.mono (specPut (some ⟨g2, 0, none⟩) e2 ds (j : Int) q 2 0 U DS.out (by omega)) ?_
          rintro e w5 ⟨g5, e5, rfl, ho5, hb5⟩
          have P5 : Hid (Blk w5 w.heap.size #[.int .i64 (z + 1), .slice (some ⟨g1, 0, none⟩) 4 e1, .slice (some ⟨g2, 0, none⟩) ds.length e2] 28) := PU.out.keep hb5
          have Z5 : Hid (Blk w5 (w.heap.size + 1 + 1) #[.int .i64 0, .slice none 0 0, .slice none 0 0] 28) := ZU.out.keep hb5
          have D5 : Hid (Blk w5 Y.heap.size #[.int .i64 (j : Int), .int .i64 q, .int .i64 2, .int .i64 0] 94) := DU.out.keep hb5
          have lw : w.heap.size + 1 + 1 < U.heap.size := ZU.out.lt
          have G5 : Hid (w.heap.size + 1 + 1 < g5) := by show _ < _; have := ho5.base; omega
          have O5 : Hid (OwnE w5 w.heap.size (.slice (some ⟨g5, 0, none⟩) (putD ((j : Int), q, 2, 0) ds).length e5) (putD ((j : Int), q, 2, 0) ds)) := OwnE.lower ho5 (by omega)
          have T5 : Hid (Turned [g1] w w5) := ((Turned.ofBelow BU.out)).trans (Turned.ofBelow hb5)
          have A5 : Hid (BoxAt w5 g1 0 bs ∧ ∀ o, w5.frozen? ⟨g1, o, none⟩ = false) := ⟨(SB.out.1).below hb5, fun o => by rw [hb5.frozen (p := ⟨g1, o, none⟩) (SB.out.1).1]; exact SB.out.2 o⟩
          generalize putD ((j : Int), q, 2, 0) ds = dn at FF O5 ho5 ⊢
          obtain ⟨M, hM⟩ : ∃ M, M = w5.setCell ⟨w.heap.size, 2, none⟩ (.slice (some ⟨g5, 0, none⟩) dn.length e5) := ⟨_, rfl⟩
          have onM : Only w.heap.size w5 M := by rw [hM]; exact (Only.refl _ _).setCell _
          have ln : Turned [w.heap.size] w5 M := Turned.ofOnly onM (by simp)
          have gl1 := G1.out
          have yl1 := YL.out
          have gl5 := G5.out
          have PM : Hid (Blk M w.heap.size #[.int .i64 (z + 1), .slice (some ⟨g1, 0, none⟩) 4 e1, .slice (some ⟨g5, 0, none⟩) dn.length e5] 28) := by show Blk _ _ _ _; rw [hM]; exact (P5.out.set 2 _).eq (by simp)
          have ZM : Hid (Blk M (w.heap.size + 1 + 1) #[.int .i64 0, .slice none 0 0, .slice none 0 0] 28) := by show M.heap[_]? = _; rw [onM.block _ (by omega)]; exact Z5.out
          have DM : Hid (Blk M Y.heap.size #[.int .i64 (j : Int), .int .i64 q, .int .i64 2, .int .i64 0] 94) := by show M.heap[_]? = _; rw [onM.block _ (by omega)]; exact D5.out
          have TM : Hid (Turned [g1] w M) := by show Turned _ _ _; rw [hM]; exact T5.out.setNew (Nat.le_refl _) _
          have AM : Hid (BoxAt M g1 0 bs ∧ ∀ o, M.frozen? ⟨g1, o, none⟩ = false) := ⟨A5.out.1.turned ln (by simp; omega), fun o => by rw [World.frozen?_of_block (w := w5) (a := ⟨g1, o, none⟩) (onM.block g1 (by omega))]; exact A5.out.2 o⟩
          have OM : Hid (OwnE M w.heap.size (.slice (some ⟨g5, 0, none⟩) dn.length e5) dn) := by
            show OwnE _ _ _ _
            obtain ⟨x1, x2⟩ := O5.out
            refine ⟨x1, ?_⟩
            rcases x2 with x2 | ⟨gg, cap, cur, hv, hg, hh, r⟩
            · exact .inl x2
            · refine .inr ⟨gg, cap, cur, hv, hg, ?_, r⟩
              injection hv with hv; injection hv with hv; injection hv with hv
              rw [onM.block gg (by omega)]; exact hh
          have HM' : Hid (M = _) := hM
          obtain ⟨p50, p51, p52⟩ := P5.out.cells3
          have fp5 := P5.out.frozen
          clear hM onM ln ho5 hb5 lw p0 p1 p2 l0 l1 l2 l3 gl1 yl1 gl5
          go_upto_region 17 with fail
          rw [← HM'.out]
          clear p50 p51 p52 fp5
          obtain ⟨p0, p1, p2⟩ := PM.out.cells3
          obtain ⟨l0, l1, l2, l3⟩ := DM.out.cells4
          obtain ⟨z0, z1, z2⟩ := ZM.out.cells3
          have fz := ZM.out.frozen
          have ZS : Hid (Blk (((M.setCell ⟨w.heap.size + 1 + 1, 0, none⟩ (.int .i64 (z + 1))).setCell ⟨w.heap.size + 1 + 1, 1, none⟩ (.slice (some ⟨g1, 0, none⟩) 4 e1)).setCell ⟨w.heap.size + 1 + 1, 2, none⟩ (.slice (some ⟨g5, 0, none⟩) dn.length e5)) (w.heap.size + 1 + 1) #[.int .i64 (z + 1), .slice (some ⟨g1, 0, none⟩) 4 e1, .slice (some ⟨g5, 0, none⟩) dn.length e5] 28 ∧
              Only (w.heap.size + 1 + 1) M (((M.setCell ⟨w.heap.size + 1 + 1, 0, none⟩ (.int .i64 (z + 1))).setCell ⟨w.heap.size + 1 + 1, 1, none⟩ (.slice (some ⟨g1, 0, none⟩) 4 e1)).setCell ⟨w.heap.size + 1 + 1, 2, none⟩ (.slice (some ⟨g5, 0, none⟩) dn.length e5))) := by
            refine ⟨?_, (((Only.refl _ _).setCell _).setCell _).setCell _⟩
            have h := ((ZM.out.set 0 (.int .i64 (z + 1))).set 1 (.slice (some ⟨g1, 0, none⟩) 4 e1)).set 2 (.slice (some ⟨g5, 0, none⟩) dn.length e5)
            exact h.eq (by simp)
          have yl17 : w.heap.size + 1 + 1 + 1 ≤ Y.heap.size := YL.out
          go_cut [5] from 80 to 82 (fun cc wx => cc = .int .i64 2 ∧ (((M.setCell ⟨w.heap.size + 1 + 1, 0, none⟩ (.int .i64 (z + 1))).setCell ⟨w.heap.size + 1 + 1, 1, none⟩ (.slice (some ⟨g1, 0, none⟩) 4 e1)).setCell ⟨w.heap.size + 1 + 1, 2, none⟩ (.slice (some ⟨g5, 0, none⟩) dn.length e5)).drew = wx)
          case first =>
            go_region
            all_goals
              go_wp2_with fail
              go_meet
              exact ⟨rfl, rfl⟩
          case rest =>
            obtain ⟨rfl, rfl⟩ := hcut
            clear p0 p1 p2 l0 l1 l2 l3 z0 z1 z2 fz
            go_wp2_with fail
            obtain ⟨c0, c1', c2'⟩ := (Blk.drew ZS.out.1).cells3
            refine bodyPost_ret (v := .tuple #[.agg #[.int .i64 (z + 1), .slice (some ⟨g1, 0, none⟩) 4 e1, .slice (some ⟨g5, 0, none⟩) dn.length e5], .int .i64 2]) (by simp [results, Tryz.results41, go_sem, c0, c1', c2']) rfl ?_
            rw [RR.out]
            exact FF.out M _ g5 e5 (by first | rfl | trivial) hj (by decide) (by first | rfl | (unfold boxesBy; simp)) (by first | rfl | simp) TM.out AM.out.1 AM.out.2 OM.out (Only.drew ZS.out.2) G5.out
    | some t =>
      obtain ⟨t1, t2, t3⟩ := t
      rw [hmj] at SC LQ LAST
      simp only [Option.isSome_some] at SC LQ LAST
      have hlq := LQ.out
      subst hlq
      simp only at LAST
      clear LQ hmj
      by_cases e1' : t1 = q
      · have VD : Hid (vd = 3) := by show _ = _; rw [VS.out, SC.out, if_pos e1']; rfl
        have eqr : eq2 ((j : Int), t1) ((j : Int), q) = true := by simp [eq2, e1']
        have hel := eqlReq (j : Int) t1 (j : Int) q
        rw [eqr] at hel
        rw [VD.out]
        have FF : Hid _ := SAME.out 3 (.inl rfl)
        clear VD VS SC eqr e1' SAME KEPT JR FRESH
        go_enter Tryz.func41, Tryz.ntmps41
        go_upto_region 1 with fail
        rw [← HW.out]
        obtain ⟨w0, w1', w2'⟩ := WC.out.1
        have fw := WC.out.2
        go_upto_region 2 with fail
        rw [← HX.out]
        obtain ⟨p0, p1, p2⟩ := PX.out.cells3
        obtain ⟨q0', q1, q2, q3, q4, q5, q6⟩ := QX.out.cells7
        go_wp2_with fail
        refine Calls.mono LAST.out ?_
        rintro e w1 ⟨rfl, hb1⟩
        obtain ⟨Y, hY⟩ : ∃ Y, Y = w1.alloc (.cells #[.int .i64 (j : Int), .int .i64 t1, .int .i64 t2, .int .i64 t3] 94) := ⟨_, rfl⟩
        have bY : Below X.heap.size X Y := by rw [hY]; exact hb1.alloc hb1.size _
        have BY : Hid (Below w.heap.size w Y) := BX.out.trans (bY.mono BX.out.size)
        have PY : Hid (Blk Y w.heap.size _ _) := PX.out.keep bY
        have QY : Hid (Blk Y (w.heap.size + 1) _ _) := QX.out.keep bY
        have ZY : Hid (Blk Y (w.heap.size + 1 + 1) _ _) := ZX.out.keep bY
        have DY : Hid (Blk Y w1.heap.size #[.int .i64 (j : Int), .int .i64 t1, .int .i64 t2, .int .i64 t3] 94) := by show Blk _ _ _ _; rw [hY]; exact Blk.new _ _ _
        have HY : Hid (Y = _) := hY
        clear hY bY hb1 p0 p1 p2 q0' q1 q2 q3 q4 q5 q6 w0 w1' w2' fw
        obtain ⟨p0, p1, p2⟩ := PY.out.cells3
        obtain ⟨q0', q1, q2, q3, q4, q5, q6⟩ := QY.out.cells7
        obtain ⟨l0, l1, l2, l3⟩ := DY.out.cells4
        go_upto_region 5 with fail
        rw [← HY.out]
        obtain ⟨z0, z1, z2⟩ := ZY.out.cells3
        have fz := ZY.out.frozen
        have ZS : Hid (Blk (((Y.setCell ⟨w.heap.size + 1 + 1, 0, none⟩ (.int .i64 (z + 1))).setCell ⟨w.heap.size + 1 + 1, 1, none⟩ (.slice (some ⟨g1, 0, none⟩) 4 e1)).setCell ⟨w.heap.size + 1 + 1, 2, none⟩ (.slice (some ⟨g2, 0, none⟩) ds.length e2)) (w.heap.size + 1 + 1) #[.int .i64 (z + 1), .slice (some ⟨g1, 0, none⟩) 4 e1, .slice (some ⟨g2, 0, none⟩) ds.length e2] 28 ∧
            Only (w.heap.size + 1 + 1) Y (((Y.setCell ⟨w.heap.size + 1 + 1, 0, none⟩ (.int .i64 (z + 1))).setCell ⟨w.heap.size + 1 + 1, 1, none⟩ (.slice (some ⟨g1, 0, none⟩) 4 e1)).setCell ⟨w.heap.size + 1 + 1, 2, none⟩ (.slice (some ⟨g2, 0, none⟩) ds.length e2))) := by
          refine ⟨?_, (((Only.refl _ _).setCell _).setCell _).setCell _⟩
          have h := ((ZY.out.set 0 (.int .i64 (z + 1))).set 1 (.slice (some ⟨g1, 0, none⟩) 4 e1)).set 2 (.slice (some ⟨g2, 0, none⟩) ds.length e2)
          exact h.eq (by simp)
        go_wp2_with fail
        obtain ⟨c0, c1', c2'⟩ := ZS.out.1.cells3
        refine bodyPost_ret (v := .tuple #[.agg #[.int .i64 (z + 1), .slice (some ⟨g1, 0, none⟩) 4 e1, .slice (some ⟨g2, 0, none⟩) ds.length e2], .int .i64 3]) (by simp [results, Tryz.results41, go_sem, c0, c1', c2']) rfl ?_
        exact FF.out Y _ BY.out ZS.out.2
      · have eqr : eq2 ((j : Int), t1) ((j : Int), q) = false := by simp [eq2, e1']
        have hel := eqlReq (j : Int) t1 (j : Int) q
        rw [eqr] at hel
        by_cases e2' : q < t1
        · have VD : Hid (vd = 4) := by show _ = _; rw [VS.out, SC.out, if_neg e1', if_pos e2']; rfl
          rw [VD.out]
          have FF : Hid _ := SAME.out 4 (.inr (.inl rfl))
          have dq : decide (q < t1) = true := by simp [e2']
          clear VD VS SC eqr e1' e2' SAME KEPT JR FRESH
          go_enter Tryz.func41, Tryz.ntmps41
          go_upto_region 1 with fail
          rw [← HW.out]
          obtain ⟨w0, w1', w2'⟩ := WC.out.1
          have fw := WC.out.2
          go_upto_region 2 with fail
          rw [← HX.out]
          obtain ⟨p0, p1, p2⟩ := PX.out.cells3
          obtain ⟨q0', q1, q2, q3, q4, q5, q6⟩ := QX.out.cells7
          go_wp2_with fail
          refine Calls.mono LAST.out ?_
          rintro e w1 ⟨rfl, hb1⟩
          obtain ⟨Y, hY⟩ : ∃ Y, Y = w1.alloc (.cells #[.int .i64 (j : Int), .int .i64 t1, .int .i64 t2, .int .i64 t3] 94) := ⟨_, rfl⟩
          have bY : Below X.heap.size X Y := by rw [hY]; exact hb1.alloc hb1.size _
          have BY : Hid (Below w.heap.size w Y) := BX.out.trans (bY.mono BX.out.size)
          have PY : Hid (Blk Y w.heap.size _ _) := PX.out.keep bY
          have QY : Hid (Blk Y (w.heap.size + 1) _ _) := QX.out.keep bY
          have ZY : Hid (Blk Y (w.heap.size + 1 + 1) _ _) := ZX.out.keep bY
          have DY : Hid (Blk Y w1.heap.size #[.int .i64 (j : Int), .int .i64 t1, .int .i64 t2, .int .i64 t3] 94) := by show Blk _ _ _ _; rw [hY]; exact Blk.new _ _ _
          have HY : Hid (Y = _) := hY
          clear hY bY hb1 p0 p1 p2 q0' q1 q2 q3 q4 q5 q6 w0 w1' w2' fw
          obtain ⟨p0, p1, p2⟩ := PY.out.cells3
          obtain ⟨q0', q1, q2, q3, q4, q5, q6⟩ := QY.out.cells7
          obtain ⟨l0, l1, l2, l3⟩ := DY.out.cells4
          go_upto_region 5 with fail
          rw [← HY.out]
          obtain ⟨z0, z1, z2⟩ := ZY.out.cells3
          have fz := ZY.out.frozen
          have ZS : Hid (Blk (((Y.setCell ⟨w.heap.size + 1 + 1, 0, none⟩ (.int .i64 (z + 1))).setCell ⟨w.heap.size + 1 + 1, 1, none⟩ (.slice (some ⟨g1, 0, none⟩) 4 e1)).setCell ⟨w.heap.size + 1 + 1, 2, none⟩ (.slice (some ⟨g2, 0, none⟩) ds.length e2)) (w.heap.size + 1 + 1) #[.int .i64 (z + 1), .slice (some ⟨g1, 0, none⟩) 4 e1, .slice (some ⟨g2, 0, none⟩) ds.length e2] 28 ∧
              Only (w.heap.size + 1 + 1) Y (((Y.setCell ⟨w.heap.size + 1 + 1, 0, none⟩ (.int .i64 (z + 1))).setCell ⟨w.heap.size + 1 + 1, 1, none⟩ (.slice (some ⟨g1, 0, none⟩) 4 e1)).setCell ⟨w.heap.size + 1 + 1, 2, none⟩ (.slice (some ⟨g2, 0, none⟩) ds.length e2))) := by
            refine ⟨?_, (((Only.refl _ _).setCell _).setCell _).setCell _⟩
            have h := ((ZY.out.set 0 (.int .i64 (z + 1))).set 1 (.slice (some ⟨g1, 0, none⟩) 4 e1)).set 2 (.slice (some ⟨g2, 0, none⟩) ds.length e2)
            exact h.eq (by simp)
          go_wp2_with fail
          obtain ⟨c0, c1', c2'⟩ := ZS.out.1.cells3
          refine bodyPost_ret (v := .tuple #[.agg #[.int .i64 (z + 1), .slice (some ⟨g1, 0, none⟩) 4 e1, .slice (some ⟨g2, 0, none⟩) ds.length e2], .int .i64 4]) (by simp [results, Tryz.results41, go_sem, c0, c1', c2']) rfl ?_
          exact FF.out Y _ BY.out ZS.out.2
        · have VD : Hid (vd = R) := by show _ = _; rw [VS.out, SC.out, if_neg e1', if_neg e2', if_pos rfl]
          have dq : decide (q < t1) = false := by simp [e2']
          clear VS SC eqr e1' e2'
          rw [VD.out]
          clear VD SAME
          go_enter Tryz.func41, Tryz.ntmps41
          go_upto_region 1 with fail
          rw [← HW.out]
          obtain ⟨w0, w1', w2'⟩ := WC.out.1
          have fw := WC.out.2
          go_upto_region 2 with fail
          rw [← HX.out]
          obtain ⟨p0, p1, p2⟩ := PX.out.cells3
          obtain ⟨q0', q1, q2, q3, q4, q5, q6⟩ := QX.out.cells7
          go_wp2_with fail
          refine Calls.mono LAST.out ?_
          rintro e w1 ⟨rfl, hb1⟩
          obtain ⟨Y, hY⟩ : ∃ Y, Y = w1.alloc (.cells #[.int .i64 (j : Int), .int .i64 t1, .int .i64 t2, .int .i64 t3] 94) := ⟨_, rfl⟩
          have bY : Below X.heap.size X Y := by rw [hY]; exact hb1.alloc hb1.size _
          have BY : Hid (Below w.heap.size w Y) := BX.out.trans (bY.mono BX.out.size)
          have PY : Hid (Blk Y w.heap.size _ _) := PX.out.keep bY
          have QY : Hid (Blk Y (w.heap.size + 1) _ _) := QX.out.keep bY
          have ZY : Hid (Blk Y (w.heap.size + 1 + 1) _ _) := ZX.out.keep bY
          have DY : Hid (Blk Y w1.heap.size #[.int .i64 (j : Int), .int .i64 t1, .int .i64 t2, .int .i64 t3] 94) := by show Blk _ _ _ _; rw [hY]; exact Blk.new _ _ _
          have HY : Hid (Y = _) := hY
          clear hY bY hb1 p0 p1 p2 q0' q1 q2 q3 q4 q5 q6 w0 w1' w2' fw
          obtain ⟨p0, p1, p2⟩ := PY.out.cells3
          obtain ⟨q0', q1, q2, q3, q4, q5, q6⟩ := QY.out.cells7
          obtain ⟨l0, l1, l2, l3⟩ := DY.out.cells4
          go_upto_region 5 with fail
          rw [← HY.out]
          obtain ⟨V, hV⟩ : ∃ V, V = Y.alloc (.cells #[.int .i64 (j : Int), .int .i64 q, .int .i64 1, .int .i64 0] 94) := ⟨_, rfl⟩
          have bV : Below Y.heap.size Y V := by rw [hV]; exact below_new _ _
          have BV : Hid (Below w.heap.size w V) := BY.out.trans (bV.mono BY.out.size)
          have PV : Hid (Blk V w.heap.size _ _) := PY.out.keep bV
          have QV : Hid (Blk V (w.heap.size + 1) _ _) := QY.out.keep bV
          have ZV : Hid (Blk V (w.heap.size + 1 + 1) _ _) := ZY.out.keep bV
          have DV : Hid (Blk V Y.heap.size #[.int .i64 (j : Int), .int .i64 q, .int .i64 1, .int .i64 0] 94) := by show Blk _ _ _ _; rw [hV]; exact Blk.new _ _ _
          have YL : Hid (w.heap.size + 1 + 1 + 1 ≤ Y.heap.size) := ZY.out.lt
          have HV : Hid (V = _) := hV
          clear hV bV
          go_upto_region 10 with fail
          rw [← HV.out]
          clear p0 p1 p2 q0' q1 q2 q3 q4 q5 q6 l0 l1 l2 l3
          obtain ⟨p0, p1, p2⟩ := PV.out.cells3
          obtain ⟨q0', q1, q2, q3, q4, q5, q6⟩ := QV.out.cells7
          go_wp2_with fail
          refine Calls.mono (FRESH.out V BV.out) ?_
          rintro e w2 ⟨rfl, hb2⟩
          have B2 : Hid (Below w.heap.size w w2) := BV.out.trans (hb2.mono BV.out.size)
          have P2 : Hid (Blk w2 w.heap.size _ _) := PV.out.keep hb2
          have Q2 : Hid (Blk w2 (w.heap.size + 1) _ _) := QV.out.keep hb2
          have Z2 : Hid (Blk w2 (w.heap.size + 1 + 1) _ _) := ZV.out.keep hb2
          have D2 : Hid (Blk w2 Y.heap.size _ _) := DV.out.keep hb2
          clear hb2 FRESH p0 p1 p2 q0' q1 q2 q3 q4 q5 q6
          generalize execFresh bs xs ys v k = fr at JR ⊢
          cases fr with
          | false =>
            have RR : Hid (R = 1) := JR.out
            have FF : Hid _ := KEPT.out 1 0 j bs
            clear JR KEPT
            obtain ⟨p0, p1, p2⟩ := P2.out.cells3
            obtain ⟨q0', q1, q2, q3, q4, q5, q6⟩ := Q2.out.cells7
            obtain ⟨l0, l1, l2, l3⟩ := D2.out.cells4
            have SB : Hid (BoxAt w2 g1 0 bs ∧ ∀ o, w2.frozen? ⟨g1, o, none⟩ = false) := by
              rcases (S0.out.below B2.out).boxes with h | ⟨g, eg, _, hat, hfr⟩
              · have := HBO.out.2; rw [h] at this; simp at this
              · injection eg with eg; injection eg with eg; subst eg
                exact ⟨hat, hfr⟩
            have DS : Hid (Sl4 w2 (some ⟨g2, 0, none⟩) ds) := S0.out.dones.sl.turned (L := [g1]) (Turned.ofBelow B2.out) (fun x e => by injection e with e; subst e; simp; exact fun h => G2.out.2 h.symm)
            go_wp2_with fail
            refine Calls.mono (specPut (some ⟨g2, 0, none⟩) e2 ds (j : Int) q 1 0 w2 DS.out (by omega)) ?_
            rintro e w5 ⟨g5, e5, rfl, ho5, hb5⟩
            have P5 : Hid (Blk w5 w.heap.size #[.int .i64 (z + 1), .slice (some ⟨g1, 0, none⟩) 4 e1, .slice (some ⟨g2, 0, none⟩) ds.length e2] 28) := P2.out.keep hb5
            have Z5 : Hid (Blk w5 (w.heap.size + 1 + 1) #[.int .i64 0, .slice none 0 0, .slice none 0 0] 28) := Z2.out.keep hb5
            have D5 : Hid (Blk w5 Y.heap.size #[.int .i64 (j : Int), .int .i64 q, .int .i64 1, .int .i64 0] 94) := D2.out.keep hb5
            have lw : w.heap.size + 1 + 1 < w2.heap.size := Z2.out.lt
            have G5 : Hid (w.heap.size + 1 + 1 < g5) := by show _ < _; have := ho5.base; omega
            have O5 : Hid (OwnE w5 w.heap.size (.slice (some ⟨g5, 0, none⟩) (putD ((j : Int), q, 1, 0) ds).length e5) (putD ((j : Int), q, 1, 0) ds)) := OwnE.lower ho5 (by omega)
            have T5 : Hid (Turned [g1] w w5) := ((Turned.ofBelow B2.out)).trans (Turned.ofBelow hb5)
            have A5 : Hid (BoxAt w5 g1 0 bs ∧ ∀ o, w5.frozen? ⟨g1, o, none⟩ = false) := ⟨(SB.out.1).below hb5, fun o => by rw [hb5.frozen (p := ⟨g1, o, none⟩) (SB.out.1).1]; exact SB.out.2 o⟩
            generalize putD ((j : Int), q, 1, 0) ds = dn at FF O5 ho5 ⊢
            obtain ⟨M, hM⟩ : ∃ M, M = w5.setCell ⟨w.heap.size, 2, none⟩ (.slice (some ⟨g5, 0, none⟩) dn.length e5) := ⟨_, rfl⟩
            have onM : Only w.heap.size w5 M := by rw [hM]; exact (Only.refl _ _).setCell _
            have ln : Turned [w.heap.size] w5 M := Turned.ofOnly onM (by simp)
            have gl1 := G1.out
            have yl1 := YL.out
            have gl5 := G5.out
            have PM : Hid (Blk M w.heap.size #[.int .i64 (z + 1), .slice (some ⟨g1, 0, none⟩) 4 e1, .slice (some ⟨g5, 0, none⟩) dn.length e5] 28) := by show Blk _ _ _ _; rw [hM]; exact (P5.out.set 2 _).eq (by simp)
            have ZM : Hid (Blk M (w.heap.size + 1 + 1) #[.int .i64 0, .slice none 0 0, .slice none 0 0] 28) := by show M.heap[_]? = _; rw [onM.block _ (by omega)]; exact Z5.out
            have DM : Hid (Blk M Y.heap.size #[.int .i64 (j : Int), .int .i64 q, .int .i64 1, .int .i64 0] 94) := by show M.heap[_]? = _; rw [onM.block _ (by omega)]; exact D5.out
            have TM : Hid (Turned [g1] w M) := by show Turned _ _ _; rw [hM]; exact T5.out.setNew (Nat.le_refl _) _
            have AM : Hid (BoxAt M g1 0 bs ∧ ∀ o, M.frozen? ⟨g1, o, none⟩ = false) := ⟨A5.out.1.turned ln (by simp; omega), fun o => by rw [World.frozen?_of_block (w := w5) (a := ⟨g1, o, none⟩) (onM.block g1 (by omega))]; exact A5.out.2 o⟩
            have OM : Hid (OwnE M w.heap.size (.slice (some ⟨g5, 0, none⟩) dn.length e5) dn) := by
              show OwnE _ _ _ _
              obtain ⟨x1, x2⟩ := O5.out
              refine ⟨x1, ?_⟩
              rcases x2 with x2 | ⟨gg, cap, cur, hv, hg, hh, r⟩
              · exact .inl x2
              · refine .inr ⟨gg, cap, cur, hv, hg, ?_, r⟩
                injection hv with hv; injection hv with hv; injection hv with hv
                rw [onM.block gg (by omega)]; exact hh
            have HM' : Hid (M = _) := hM
            obtain ⟨p50, p51, p52⟩ := P5.out.cells3
            have fp5 := P5.out.frozen
            clear hM onM ln ho5 hb5 lw p0 p1 p2 l0 l1 l2 l3 gl1 yl1 gl5
            go_upto_region 17 with fail
            rw [← HM'.out]
            clear p50 p51 p52 fp5
            obtain ⟨p0, p1, p2⟩ := PM.out.cells3
            obtain ⟨l0, l1, l2, l3⟩ := DM.out.cells4
            obtain ⟨z0, z1, z2⟩ := ZM.out.cells3
            have fz := ZM.out.frozen
            have ZS : Hid (Blk (((M.setCell ⟨w.heap.size + 1 + 1, 0, none⟩ (.int .i64 (z + 1))).setCell ⟨w.heap.size + 1 + 1, 1, none⟩ (.slice (some ⟨g1, 0, none⟩) 4 e1)).setCell ⟨w.heap.size + 1 + 1, 2, none⟩ (.slice (some ⟨g5, 0, none⟩) dn.length e5)) (w.heap.size + 1 + 1) #[.int .i64 (z + 1), .slice (some ⟨g1, 0, none⟩) 4 e1, .slice (some ⟨g5, 0, none⟩) dn.length e5] 28 ∧
                Only (w.heap.size + 1 + 1) M (((M.setCell ⟨w.heap.size + 1 + 1, 0, none⟩ (.int .i64 (z + 1))).setCell ⟨w.heap.size + 1 + 1, 1, none⟩ (.slice (some ⟨g1, 0, none⟩) 4 e1)).setCell ⟨w.heap.size + 1 + 1, 2, none⟩ (.slice (some ⟨g5, 0, none⟩) dn.length e5))) := by
              refine ⟨?_, (((Only.refl _ _).setCell _).setCell _).setCell _⟩
              have h := ((ZM.out.set 0 (.int .i64 (z + 1))).set 1 (.slice (some ⟨g1, 0, none⟩) 4 e1)).set 2 (.slice (some ⟨g5, 0, none⟩) dn.length e5)
              exact h.eq (by simp)
            have yl17 : w.heap.size + 1 + 1 + 1 ≤ Y.heap.size := YL.out
            go_cut [5] from 80 to 82 (fun cc wx => cc = .int .i64 1 ∧ (((M.setCell ⟨w.heap.size + 1 + 1, 0, none⟩ (.int .i64 (z + 1))).setCell ⟨w.heap.size + 1 + 1, 1, none⟩ (.slice (some ⟨g1, 0, none⟩) 4 e1)).setCell ⟨w.heap.size + 1 + 1, 2, none⟩ (.slice (some ⟨g5, 0, none⟩) dn.length e5)).drew = wx)
            case first =>
              go_region
              all_goals
                go_wp2_with fail
                go_meet
                exact ⟨rfl, rfl⟩
            case rest =>
              obtain ⟨rfl, rfl⟩ := hcut
              clear p0 p1 p2 l0 l1 l2 l3 z0 z1 z2 fz
              go_wp2_with fail
              obtain ⟨c0, c1', c2'⟩ := (Blk.drew ZS.out.1).cells3
              refine bodyPost_ret (v := .tuple #[.agg #[.int .i64 (z + 1), .slice (some ⟨g1, 0, none⟩) 4 e1, .slice (some ⟨g5, 0, none⟩) dn.length e5], .int .i64 1]) (by simp [results, Tryz.results41, go_sem, c0, c1', c2']) rfl ?_
              rw [RR.out]
              exact FF.out M _ g5 e5 (by first | rfl | trivial) hj (by decide) (by first | rfl | (unfold boxesBy; simp)) (by first | rfl | simp) TM.out AM.out.1 AM.out.2 OM.out (Only.drew ZS.out.2) G5.out
          | true =>
            by_cases hk0 : k = 0
            · have RR : Hid (R = 0) := by show _ = _; rw [JR.out, if_pos rfl, if_pos hk0]
              have HK : Hid (k = 0) := hk0
              have ek : (k == 0) = true := by simp [hk0]
              have FF : Hid _ := KEPT.out 0 v j (doPuts bs ys)
              clear JR KEPT hk0
              -- the code is 0 and the value laid
              obtain ⟨U, hU⟩ : ∃ U, U = ((w2.setCell ⟨Y.heap.size, 2, none⟩ (.int .i64 2)).setCell ⟨Y.heap.size, 2, none⟩ (.int .i64 0)).setCell ⟨Y.heap.size, 3, none⟩ (.int .i64 v) := ⟨_, rfl⟩
              have onU : Only Y.heap.size w2 U := by rw [hU]; exact (((Only.refl _ _).setCell _).setCell _).setCell _
              have yl := YL.out
              have BU : Hid (Below w.heap.size w U) := B2.out.trans (onU.below (by omega))
              have PU : Hid (Blk U w.heap.size #[.int .i64 (z + 1), .slice (some ⟨g1, 0, none⟩) 4 e1, .slice (some ⟨g2, 0, none⟩) ds.length e2] 28) := by show U.heap[_]? = _; rw [onU.block _ (by omega)]; exact P2.out
              have QU : Hid (Blk U (w.heap.size + 1) #[.bool false, .int .i64 (j : Int), .int .i64 q, .slice b1 xs.length d1, .slice b2 ys.length d2, .int .i64 v, .int .i64 k] 48) := by show U.heap[_]? = _; rw [onU.block _ (by omega)]; exact Q2.out
              have ZU : Hid (Blk U (w.heap.size + 1 + 1) #[.int .i64 0, .slice none 0 0, .slice none 0 0] 28) := by show U.heap[_]? = _; rw [onU.block _ (by omega)]; exact Z2.out
              have DU : Hid (Blk U Y.heap.size #[.int .i64 (j : Int), .int .i64 q, .int .i64 0, .int .i64 v] 94) := by
                have h := ((D2.out.set 2 (.int .i64 2)).set 2 (.int .i64 0)).set 3 (.int .i64 v)
                rw [← hU] at h
                exact h.eq (by simp)
              have HU : Hid (U = _) := hU
              have DO : Hid (Calls Tryz.prog 89 #[.slice (some ⟨g1, 0, none⟩) 4 e1, .agg #[.slice b1 xs.length d1, .slice b2 ys.length d2, .int .i64 v, .int .i64 k]] U fun e w' => e = .returned (.slice (some ⟨g1, 0, none⟩) 4 e1) ∧ BoxAt w' g1 0 (doPuts bs ys) ∧ (∀ o, w'.frozen? ⟨g1, o, none⟩ = false) ∧ Bar g1 U w') := by
                have sb := (S0.out.below BU.out).boxes
                rcases sb with h | ⟨g, eg, _, hat, hfr⟩
                · have := HBO.out.2; rw [h] at this; simp at this
                · injection eg with eg; injection eg with eg; subst eg
                  exact l3Do g1 e1 bs b1 b2 xs.length d1 d2 ys v k U HBO.out.1 hat hfr (S4.out.below BU.out) F2.out m2 (execOk_puts HE.out)
              clear hU onU
              obtain ⟨p0, p1, p2⟩ := P2.out.cells3
              obtain ⟨q0', q1, q2, q3, q4, q5, q6⟩ := Q2.out.cells7
              obtain ⟨l0, l1, l2, l3⟩ := D2.out.cells4
              have fd := D2.out.frozen
              have D2a : Hid (Blk (w2.setCell ⟨Y.heap.size, 2, none⟩ (.int .i64 2)) Y.heap.size #[.int .i64 (j : Int), .int .i64 q, .int .i64 2, .int .i64 0] 94) := (D2.out.set 2 _).eq (by first | rfl | simp)
              obtain ⟨la0, la1, la2, la3⟩ := D2a.out.cells4
              have ya1 : (w2.setCell ⟨Y.heap.size, 2, none⟩ (.int .i64 2)).cell? ⟨w.heap.size + 1, 6, none⟩ = some (.int .i64 k) := ((Q2.out.other (by have := YL.out; omega) 2 (.int .i64 2)).cells7).2.2.2.2.2.2
              have ya2 : ((w2.setCell ⟨Y.heap.size, 2, none⟩ (.int .i64 2)).setCell ⟨Y.heap.size, 2, none⟩ (.int .i64 0)).cell? ⟨w.heap.size + 1, 5, none⟩ = some (.int .i64 v) := (((Q2.out.other (by have := YL.out; omega) 2 (.int .i64 2)).other (by have := YL.out; omega) 2 (.int .i64 0)).cells7).2.2.2.2.2.1
              go_upto_region 15 with fail
              rw [← HU.out]
              clear p0 p1 p2 q0' q1 q2 q3 q4 q5 q6 l0 l1 l2 l3 la0 la1 la2 la3 fd ya1 ya2
              obtain ⟨p0, p1, p2⟩ := PU.out.cells3
              obtain ⟨q0', q1, q2, q3, q4, q5, q6⟩ := QU.out.cells7
              go_wp2_with fail
              refine Calls.mono DO.out ?_
              rintro e w3 ⟨rfl, hat, hfr, hbar⟩
              have gl := G1.out
              have nb : ∀ {g C t}, Blk U g C t → g ≠ g1 → Blk w3 g C t := fun h hn => by show w3.heap[_]? = _; rw [hbar.block _ h.lt hn]; exact h
              have P3 : Hid (Blk w3 w.heap.size _ _) := nb PU.out (by omega)
              have Z3 : Hid (Blk w3 (w.heap.size + 1 + 1) _ _) := nb ZU.out (by omega)
              have D3 : Hid (Blk w3 Y.heap.size _ _) := nb DU.out (by have := YL.out; omega)
              obtain ⟨L, hL⟩ : ∃ L, L = w3.setCell ⟨w.heap.size, 1, none⟩ (.slice (some ⟨g1, 0, none⟩) 4 e1) := ⟨_, rfl⟩
              have onL : Only w.heap.size w3 L := by rw [hL]; exact (Only.refl _ _).setCell _
              have T3' : Turned [g1] w w3 := ((Turned.ofBelow BU.out).trans (Turned.ofBar hbar))
              have TL : Hid (Turned [g1] w L) := by show Turned _ _ _; rw [hL]; exact T3'.setNew (Nat.le_refl _) _
              have P4 : Hid (Blk L w.heap.size #[.int .i64 (z + 1), .slice (some ⟨g1, 0, none⟩) 4 e1, .slice (some ⟨g2, 0, none⟩) ds.length e2] 28) := by show Blk _ _ _ _; rw [hL]; exact (P3.out.set 1 _).eq (by simp)
              have Z4 : Hid (Blk L (w.heap.size + 1 + 1) #[.int .i64 0, .slice none 0 0, .slice none 0 0] 28) := by show L.heap[_]? = _; rw [onL.block _ (by omega)]; exact Z3.out
              have D4 : Hid (Blk L Y.heap.size #[.int .i64 (j : Int), .int .i64 q, .int .i64 0, .int .i64 v] 94) := by show L.heap[_]? = _; rw [onL.block _ (by have := YL.out; omega)]; exact D3.out
              have A4 : Hid (BoxAt L g1 0 (doPuts bs ys) ∧ ∀ o, L.frozen? ⟨g1, o, none⟩ = false) := ⟨hat.turned (Turned.ofOnly onL (L := [w.heap.size]) (by simp)) (by simp; omega), fun o => by rw [World.frozen?_of_block (w := w3) (a := ⟨g1, o, none⟩) (onL.block g1 (by omega))]; exact hfr o⟩
              have HL : Hid (L = _) := hL
              obtain ⟨p30, p31, p32⟩ := P3.out.cells3
              have fp := P3.out.frozen
              clear hL onL hat hfr hbar T3' p0 p1 p2 q0' q1 q2 q3 q4 q5 q6 DO
              go_upto_region 16 with fail
              rw [← HL.out]
              clear p30 p31 p32 fp
              obtain ⟨p0, p1, p2⟩ := P4.out.cells3
              obtain ⟨l0, l1, l2, l3⟩ := D4.out.cells4
              have DS : Hid (Sl4 L (some ⟨g2, 0, none⟩) ds) := S0.out.dones.sl.turned (L := [g1]) TL.out (fun x e => by injection e with e; subst e; simp; exact fun h => G2.out.2 h.symm)
              go_wp2_with fail
              refine Calls.mono (specPut (some ⟨g2, 0, none⟩) e2 ds (j : Int) q 0 v L DS.out (by omega)) ?_
              rintro e w5 ⟨g5, e5, rfl, ho5, hb5⟩
              have P5 : Hid (Blk w5 w.heap.size #[.int .i64 (z + 1), .slice (some ⟨g1, 0, none⟩) 4 e1, .slice (some ⟨g2, 0, none⟩) ds.length e2] 28) := P4.out.keep hb5
              have Z5 : Hid (Blk w5 (w.heap.size + 1 + 1) #[.int .i64 0, .slice none 0 0, .slice none 0 0] 28) := Z4.out.keep hb5
              have D5 : Hid (Blk w5 Y.heap.size #[.int .i64 (j : Int), .int .i64 q, .int .i64 0, .int .i64 v] 94) := D4.out.keep hb5
              have lw : w.heap.size + 1 + 1 < L.heap.size := Z4.out.lt
              have G5 : Hid (w.heap.size + 1 + 1 < g5) := by show _ < _; have := ho5.base; omega
              have O5 : Hid (OwnE w5 w.heap.size (.slice (some ⟨g5, 0, none⟩) (putD ((j : Int), q, 0, v) ds).length e5) (putD ((j : Int), q, 0, v) ds)) := OwnE.lower ho5 (by omega)
              have T5 : Hid (Turned [g1] w w5) := (TL.out).trans (Turned.ofBelow hb5)
              have A5 : Hid (BoxAt w5 g1 0 (doPuts bs ys) ∧ ∀ o, w5.frozen? ⟨g1, o, none⟩ = false) := ⟨(A4.out.1).below hb5, fun o => by rw [hb5.frozen (p := ⟨g1, o, none⟩) (A4.out.1).1]; exact A4.out.2 o⟩
              generalize putD ((j : Int), q, 0, v) ds = dn at FF O5 ho5 ⊢
              obtain ⟨M, hM⟩ : ∃ M, M = w5.setCell ⟨w.heap.size, 2, none⟩ (.slice (some ⟨g5, 0, none⟩) dn.length e5) := ⟨_, rfl⟩
              have onM : Only w.heap.size w5 M := by rw [hM]; exact (Only.refl _ _).setCell _
              have ln : Turned [w.heap.size] w5 M := Turned.ofOnly onM (by simp)
              have gl1 := G1.out
              have yl1 := YL.out
              have gl5 := G5.out
              have PM : Hid (Blk M w.heap.size #[.int .i64 (z + 1), .slice (some ⟨g1, 0, none⟩) 4 e1, .slice (some ⟨g5, 0, none⟩) dn.length e5] 28) := by show Blk _ _ _ _; rw [hM]; exact (P5.out.set 2 _).eq (by simp)
              have ZM : Hid (Blk M (w.heap.size + 1 + 1) #[.int .i64 0, .slice none 0 0, .slice none 0 0] 28) := by show M.heap[_]? = _; rw [onM.block _ (by omega)]; exact Z5.out
              have DM : Hid (Blk M Y.heap.size #[.int .i64 (j : Int), .int .i64 q, .int .i64 0, .int .i64 v] 94) := by show M.heap[_]? = _; rw [onM.block _ (by omega)]; exact D5.out
              have TM : Hid (Turned [g1] w M) := by show Turned _ _ _; rw [hM]; exact T5.out.setNew (Nat.le_refl _) _
              have AM : Hid (BoxAt M g1 0 (doPuts bs ys) ∧ ∀ o, M.frozen? ⟨g1, o, none⟩ = false) := ⟨A5.out.1.turned ln (by simp; omega), fun o => by rw [World.frozen?_of_block (w := w5) (a := ⟨g1, o, none⟩) (onM.block g1 (by omega))]; exact A5.out.2 o⟩
              have OM : Hid (OwnE M w.heap.size (.slice (some ⟨g5, 0, none⟩) dn.length e5) dn) := by
                show OwnE _ _ _ _
                obtain ⟨x1, x2⟩ := O5.out
                refine ⟨x1, ?_⟩
                rcases x2 with x2 | ⟨gg, cap, cur, hv, hg, hh, r⟩
                · exact .inl x2
                · refine .inr ⟨gg, cap, cur, hv, hg, ?_, r⟩
                  injection hv with hv; injection hv with hv; injection hv with hv
                  rw [onM.block gg (by omega)]; exact hh
              have HM' : Hid (M = _) := hM
              obtain ⟨p50, p51, p52⟩ := P5.out.cells3
              have fp5 := P5.out.frozen
              clear hM onM ln ho5 hb5 lw p0 p1 p2 l0 l1 l2 l3 gl1 yl1 gl5
              go_upto_region 17 with fail
              rw [← HM'.out]
              clear p50 p51 p52 fp5
              obtain ⟨p0, p1, p2⟩ := PM.out.cells3
              obtain ⟨l0, l1, l2, l3⟩ := DM.out.cells4
              obtain ⟨z0, z1, z2⟩ := ZM.out.cells3
              have fz := ZM.out.frozen
              have ZS : Hid (Blk (((M.setCell ⟨w.heap.size + 1 + 1, 0, none⟩ (.int .i64 (z + 1))).setCell ⟨w.heap.size + 1 + 1, 1, none⟩ (.slice (some ⟨g1, 0, none⟩) 4 e1)).setCell ⟨w.heap.size + 1 + 1, 2, none⟩ (.slice (some ⟨g5, 0, none⟩) dn.length e5)) (w.heap.size + 1 + 1) #[.int .i64 (z + 1), .slice (some ⟨g1, 0, none⟩) 4 e1, .slice (some ⟨g5, 0, none⟩) dn.length e5] 28 ∧
                  Only (w.heap.size + 1 + 1) M (((M.setCell ⟨w.heap.size + 1 + 1, 0, none⟩ (.int .i64 (z + 1))).setCell ⟨w.heap.size + 1 + 1, 1, none⟩ (.slice (some ⟨g1, 0, none⟩) 4 e1)).setCell ⟨w.heap.size + 1 + 1, 2, none⟩ (.slice (some ⟨g5, 0, none⟩) dn.length e5))) := by
                refine ⟨?_, (((Only.refl _ _).setCell _).setCell _).setCell _⟩
                have h := ((ZM.out.set 0 (.int .i64 (z + 1))).set 1 (.slice (some ⟨g1, 0, none⟩) 4 e1)).set 2 (.slice (some ⟨g5, 0, none⟩) dn.length e5)
                exact h.eq (by simp)
              have yl17 : w.heap.size + 1 + 1 + 1 ≤ Y.heap.size := YL.out
              go_cut [5] from 80 to 82 (fun cc wx => cc = .int .i64 0 ∧ (((M.setCell ⟨w.heap.size + 1 + 1, 0, none⟩ (.int .i64 (z + 1))).setCell ⟨w.heap.size + 1 + 1, 1, none⟩ (.slice (some ⟨g1, 0, none⟩) 4 e1)).setCell ⟨w.heap.size + 1 + 1, 2, none⟩ (.slice (some ⟨g5, 0, none⟩) dn.length e5)).drew = wx)
              case first =>
                go_region
                all_goals
                  go_wp2_with fail
                  go_meet
                  exact ⟨rfl, rfl⟩
              case rest =>
                obtain ⟨rfl, rfl⟩ := hcut
                clear p0 p1 p2 l0 l1 l2 l3 z0 z1 z2 fz
                go_wp2_with fail
                obtain ⟨c0, c1', c2'⟩ := (Blk.drew ZS.out.1).cells3
                refine bodyPost_ret (v := .tuple #[.agg #[.int .i64 (z + 1), .slice (some ⟨g1, 0, none⟩) 4 e1, .slice (some ⟨g5, 0, none⟩) dn.length e5], .int .i64 0]) (by simp [results, Tryz.results41, go_sem, c0, c1', c2']) rfl ?_
                rw [RR.out]
                exact FF.out M _ g5 e5 (by first | rfl | trivial) hj (by decide) (by first | rfl | (unfold boxesBy; simp)) (by first | rfl | simp) TM.out AM.out.1 AM.out.2 OM.out (Only.drew ZS.out.2) G5.out
            · have RR : Hid (R = 2) := by show _ = _; rw [JR.out, if_pos rfl, if_neg hk0]
              have ek : (k == 0) = false := by simp [hk0]
              have FF : Hid _ := KEPT.out 2 0 j bs
              clear JR KEPT hk0
              obtain ⟨U, hU⟩ : ∃ U, U = w2.setCell ⟨Y.heap.size, 2, none⟩ (.int .i64 2) := ⟨_, rfl⟩
              have onU : Only Y.heap.size w2 U := by rw [hU]; exact (Only.refl _ _).setCell _
              have yl := YL.out
              have BU : Hid (Below w.heap.size w U) := B2.out.trans (onU.below (by omega))
              have PU : Hid (Blk U w.heap.size #[.int .i64 (z + 1), .slice (some ⟨g1, 0, none⟩) 4 e1, .slice (some ⟨g2, 0, none⟩) ds.length e2] 28) := by show U.heap[_]? = _; rw [onU.block _ (by omega)]; exact P2.out
              have QU : Hid (Blk U (w.heap.size + 1) #[.bool false, .int .i64 (j : Int), .int .i64 q, .slice b1 xs.length d1, .slice b2 ys.length d2, .int .i64 v, .int .i64 k] 48) := by show U.heap[_]? = _; rw [onU.block _ (by omega)]; exact Q2.out
              have ZU : Hid (Blk U (w.heap.size + 1 + 1) #[.int .i64 0, .slice none 0 0, .slice none 0 0] 28) := by show U.heap[_]? = _; rw [onU.block _ (by omega)]; exact Z2.out
              have DU : Hid (Blk U Y.heap.size #[.int .i64 (j : Int), .int .i64 q, .int .i64 2, .int .i64 0] 94) := by
                have h := D2.out.set 2 (.int .i64 2)
                rw [← hU] at h
                exact h.eq (by simp)
              have HU : Hid (U = _) := hU
              clear hU onU
              obtain ⟨p0, p1, p2⟩ := P2.out.cells3
              obtain ⟨l0, l1, l2, l3⟩ := D2.out.cells4
              have fd := D2.out.frozen
              go_upto_region 12 with fail
              rw [← HU.out]
              clear p0 p1 p2 l0 l1 l2 l3 fd
              obtain ⟨p0, p1, p2⟩ := PU.out.cells3
              obtain ⟨q0', q1, q2, q3, q4, q5, q6⟩ := QU.out.cells7
              obtain ⟨l0, l1, l2, l3⟩ := DU.out.cells4
              have SB : Hid (BoxAt U g1 0 bs ∧ ∀ o, U.frozen? ⟨g1, o, none⟩ = false) := by
                rcases (S0.out.below BU.out).boxes with h | ⟨g, eg, _, hat, hfr⟩
                · have := HBO.out.2; rw [h] at this; simp at this
                · injection eg with eg; injection eg with eg; subst eg
                  exact ⟨hat, hfr⟩
              have DS : Hid (Sl4 U (some ⟨g2, 0, none⟩) ds) := S0.out.dones.sl.turned (L := [g1]) (Turned.ofBelow BU.out) (fun x e => by injection e with e; subst e; simp; exact fun h => G2.out.2 h.symm)
              go_wp2_with fail
              refine Calls.mono (specPut (some ⟨g2, 0, none⟩) e2 ds (j : Int) q 2 0 U DS.out (by omega)) ?_
              rintro e w5 ⟨g5, e5, rfl, ho5, hb5⟩
              have P5 : Hid (Blk w5 w.heap.size #[.int .i64 (z + 1), .slice (some ⟨g1, 0, none⟩) 4 e1, .slice (some ⟨g2, 0, none⟩) ds.length e2] 28) := PU.out.keep hb5
              have Z5 : Hid (Blk w5 (w.heap.size + 1 + 1) #[.int .i64 0, .slice none 0 0, .slice none 0 0] 28) := ZU.out.keep hb5
              have D5 : Hid (Blk w5 Y.heap.size #[.int .i64 (j : Int), .int .i64 q, .int .i64 2, .int .i64 0] 94) := DU.out.keep hb5
              have lw : w.heap.size + 1 + 1 < U.heap.size := ZU.out.lt
              have G5 : Hid (w.heap.size + 1 + 1 < g5) := by show _ < _; have := ho5.base; omega
              have O5 : Hid (OwnE w5 w.heap.size (.slice (some ⟨g5, 0, none⟩) (putD ((j : Int), q, 2, 0) ds).length e5) (putD ((j : Int), q, 2, 0) ds)) := OwnE.lower ho5 (by omega)
              have T5 : Hid (Turned [g1] w w5) := ((Turned.ofBelow BU.out)).trans (Turned.ofBelow hb5)
              have A5 : Hid (BoxAt w5 g1 0 bs ∧ ∀ o, w5.frozen? ⟨g1, o, none⟩ = false) := ⟨(SB.out.1).below hb5, fun o => by rw [hb5.frozen (p := ⟨g1, o, none⟩) (SB.out.1).1]; exact SB.out.2 o⟩
              generalize putD ((j : Int), q, 2, 0) ds = dn at FF O5 ho5 ⊢
              obtain ⟨M, hM⟩ : ∃ M, M = w5.setCell ⟨w.heap.size, 2, none⟩ (.slice (some ⟨g5, 0, none⟩) dn.length e5) := ⟨_, rfl⟩
              have onM : Only w.heap.size w5 M := by rw [hM]; exact (Only.refl _ _).setCell _
              have ln : Turned [w.heap.size] w5 M := Turned.ofOnly onM (by simp)
              have gl1 := G1.out
              have yl1 := YL.out
              have gl5 := G5.out
              have PM : Hid (Blk M w.heap.size #[.int .i64 (z + 1), .slice (some ⟨g1, 0, none⟩) 4 e1, .slice (some ⟨g5, 0, none⟩) dn.length e5] 28) := by show Blk _ _ _ _; rw [hM]; exact (P5.out.set 2 _).eq (by simp)
              have ZM : Hid (Blk M (w.heap.size + 1 + 1) #[.int .i64 0, .slice none 0 0, .slice none 0 0] 28) := by show M.heap[_]? = _; rw [onM.block _ (by omega)]; exact Z5.out
              have DM : Hid (Blk M Y.heap.size #[.int .i64 (j : Int), .int .i64 q, .int .i64 2, .int .i64 0] 94) := by show M.heap[_]? = _; rw [onM.block _ (by omega)]; exact D5.out
              have TM : Hid (Turned [g1] w M) := by show Turned _ _ _; rw [hM]; exact T5.out.setNew (Nat.le_refl _) _
              have AM : Hid (BoxAt M g1 0 bs ∧ ∀ o, M.frozen? ⟨g1, o, none⟩ = false) := ⟨A5.out.1.turned ln (by simp; omega), fun o => by rw [World.frozen?_of_block (w := w5) (a := ⟨g1, o, none⟩) (onM.block g1 (by omega))]; exact A5.out.2 o⟩
              have OM : Hid (OwnE M w.heap.size (.slice (some ⟨g5, 0, none⟩) dn.length e5) dn) := by
                show OwnE _ _ _ _
                obtain ⟨x1, x2⟩ := O5.out
                refine ⟨x1, ?_⟩
                rcases x2 with x2 | ⟨gg, cap, cur, hv, hg, hh, r⟩
                · exact .inl x2
                · refine .inr ⟨gg, cap, cur, hv, hg, ?_, r⟩
                  injection hv with hv; injection hv with hv; injection hv with hv
                  rw [onM.block gg (by omega)]; exact hh
              have HM' : Hid (M = _) := hM
              obtain ⟨p50, p51, p52⟩ := P5.out.cells3
              have fp5 := P5.out.frozen
              clear hM onM ln ho5 hb5 lw p0 p1 p2 l0 l1 l2 l3 gl1 yl1 gl5
              go_upto_region 17 with fail
              rw [← HM'.out]
              clear p50 p51 p52 fp5
              obtain ⟨p0, p1, p2⟩ := PM.out.cells3
              obtain ⟨l0, l1, l2, l3⟩ := DM.out.cells4
              obtain ⟨z0, z1, z2⟩ := ZM.out.cells3
              have fz := ZM.out.frozen
              have ZS : Hid (Blk (((M.setCell ⟨w.heap.size + 1 + 1, 0, none⟩ (.int .i64 (z + 1))).setCell ⟨w.heap.size + 1 + 1, 1, none⟩ (.slice (some ⟨g1, 0, none⟩) 4 e1)).setCell ⟨w.heap.size + 1 + 1, 2, none⟩ (.slice (some ⟨g5, 0, none⟩) dn.length e5)) (w.heap.size + 1 + 1) #[.int .i64 (z + 1), .slice (some ⟨g1, 0, none⟩) 4 e1, .slice (some ⟨g5, 0, none⟩) dn.length e5] 28 ∧
                  Only (w.heap.size + 1 + 1) M (((M.setCell ⟨w.heap.size + 1 + 1, 0, none⟩ (.int .i64 (z + 1))).setCell ⟨w.heap.size + 1 + 1, 1, none⟩ (.slice (some ⟨g1, 0, none⟩) 4 e1)).setCell ⟨w.heap.size + 1 + 1, 2, none⟩ (.slice (some ⟨g5, 0, none⟩) dn.length e5))) := by
                refine ⟨?_, (((Only.refl _ _).setCell _).setCell _).setCell _⟩
                have h := ((ZM.out.set 0 (.int .i64 (z + 1))).set 1 (.slice (some ⟨g1, 0, none⟩) 4 e1)).set 2 (.slice (some ⟨g5, 0, none⟩) dn.length e5)
                exact h.eq (by simp)
              have yl17 : w.heap.size + 1 + 1 + 1 ≤ Y.heap.size := YL.out
              go_cut [5] from 80 to 82 (fun cc wx => cc = .int .i64 2 ∧ (((M.setCell ⟨w.heap.size + 1 + 1, 0, none⟩ (.int .i64 (z + 1))).setCell ⟨w.heap.size + 1 + 1, 1, none⟩ (.slice (some ⟨g1, 0, none⟩) 4 e1)).setCell ⟨w.heap.size + 1 + 1, 2, none⟩ (.slice (some ⟨g5, 0, none⟩) dn.length e5)).drew = wx)
              case first =>
                go_region
                all_goals
                  go_wp2_with fail
                  go_meet
                  exact ⟨rfl, rfl⟩
              case rest =>
                obtain ⟨rfl, rfl⟩ := hcut
                clear p0 p1 p2 l0 l1 l2 l3 z0 z1 z2 fz
                go_wp2_with fail
                obtain ⟨c0, c1', c2'⟩ := (Blk.drew ZS.out.1).cells3
                refine bodyPost_ret (v := .tuple #[.agg #[.int .i64 (z + 1), .slice (some ⟨g1, 0, none⟩) 4 e1, .slice (some ⟨g5, 0, none⟩) dn.length e5], .int .i64 2]) (by simp [results, Tryz.results41, go_sem, c0, c1', c2']) rfl ?_
                rw [RR.out]
                exact FF.out M _ g5 e5 (by first | rfl | trivial) hj (by decide) (by first | rfl | (unfold boxesBy; simp)) (by first | rfl | simp) TM.out AM.out.1 AM.out.2 OM.out (Only.drew ZS.out.2) G5.out
end Go.Proofs.YtbecdihfopjlhaaGreatDoor.Own
